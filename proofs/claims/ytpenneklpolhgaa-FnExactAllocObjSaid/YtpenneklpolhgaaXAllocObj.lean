/- FnExactAllocObj answers true at every input: AllocObj answers as its model does, leaves its arguments alone and owns its answer. Conditions: none. -/
import Derived.Test.YtpenneklpolhgaaLaw
import Derived.Test.YtpenneklpolhgaaLaw8
import Derived.Test.YtpenneklpolhgaaMH
import Derived.Test.YtpenneklpolhgaaH4
import Derived.Test.YtpenneklpolhgaaH10
import Derived.Deep.RegionHeld3
namespace Go.Proofs.Ytpenneklpolhgaa
set_option maxRecDepth 20000
set_option linter.unusedSimpArgs false
set_option linter.unusedVariables false
open Go.ChangeShapes Go.WideShapes Go.ChangeAt Go.RowKit
set_option linter.unusedVariables false
set_option maxHeartbeats 4000000 in
theorem walk_AllocObj (v0 u0 : Value) (x0 : Hp) (w : World) (hA0 : RdAHp w v0 u0 x0) :
    Calls Try.prog 5 #[.agg #[v0, u0]] w fun e w' => e = .returned (.bool true) ∧ Below w.heap.size w w' := by
  obtain ⟨Aa0, da0, Ba0, ea0, rfl, rfl⟩ := hA0.slices
  have HAaH := Lib.hid hA0
  clear hA0
  have hqa : totHp x0 ≤ x0.g.length + x0.l.length ∧ x0.g.length + x0.l.length ≤ totHp x0 := ⟨Nat.le_refl _, Nat.le_refl _⟩
  have hqb : totHp (allocH x0) ≤ totHp x0 := by have := allocH_len x0; unfold totHp; omega
  have hB := Below.refl w.heap.size w
  go_enter Try.func5, Try.ntmps5
  go_wp2_with fail
  have hB' := hB.alloc hB.size (.cells #[.slice Aa0 x0.g.length da0, .slice Ba0 x0.l.length ea0] 25)
  clear hB
  have k1 := Bk.new w #[.slice Aa0 x0.g.length da0, .slice Ba0 x0.l.length ea0] 25
  refine (szHeap _ _ x0 (1048576) _ (HAaH.out.below hB') (by omega) (by omega)).mono ?_
  rintro e w2 ⟨rfl, hb2⟩
  have sz3 := hb2.size
  try simp only [World.size_alloc] at sz3
  have hB'' := hB'.trans (hb2.mono hB'.size)
  clear hB'
  have k1' := k1.below hb2 k1.lt
  clear k1
  by_cases hn2 : (1048576 : Int) - (totHp x0) < 0
  · rw [show szF (totHp x0) (1048576) = -1 by unfold szF; rw [if_pos hn2]]
    go_wp2_with fail
    go_ret
    exact ⟨rfl, hB''⟩
  rw [show szF (totHp x0) (1048576) = 1048576 - (totHp x0) by unfold szF; rw [if_neg hn2]]
  obtain ⟨hc1x0, gc1x0⟩ := k1'.at_ 0 (x := .slice Aa0 x0.g.length da0) rfl
  obtain ⟨hc1x1, gc1x1⟩ := k1'.at_ 1 (x := .slice Ba0 x0.l.length ea0) rfl
  have l1 := k1'.lt
  go_wp2_with fail
  refine (toHeap _ _ x0 _ (HAaH.out.below hB'') (by omega)).mono ?_
  rintro e w4 ⟨v4x0, v4x1, bs4, rfl, ho4, lo4, hb4⟩
  clear hc1x0 gc1x0 hc1x1 gc1x1 l1
  have sz5 := hb4.size
  try simp only [World.size_alloc] at sz5
  have hB''' := hB''.trans (hb4.mono hB''.size)
  clear hB''
  have k1'' := k1'.below hb4 k1'.lt
  clear k1'
  have hi4 := ho4.lt
  try simp only [World.size_alloc] at lo4
  obtain ⟨A4, d4, B4, e4, rfl, rfl⟩ := ho4.slices
  obtain ⟨hc1x0, gc1x0⟩ := k1''.at_ 0 (x := .slice Aa0 x0.g.length da0) rfl
  obtain ⟨hc1x1, gc1x1⟩ := k1''.at_ 1 (x := .slice Ba0 x0.l.length ea0) rfl
  have l1 := k1''.lt
  go_wp2_with fail
  refine (spec_AllocObj _ _ x0 _ ho4.rd (by omega)).mono ?_
  rintro e w6 ⟨v7x0, v7x1, bs7, rfl, ho7, lo7, hb7⟩
  clear hc1x0 gc1x0 hc1x1 gc1x1 l1
  have sz8 := hb7.size
  try simp only [World.size_alloc] at sz8
  have hB'''' := hB'''.trans (hb7.mono hB'''.size)
  clear hB'''
  have k1''' := k1''.below hb7 k1''.lt
  clear k1''
  have ho4' := ho4.below hb7
  clear ho4
  have hi7 := ho7.lt
  try simp only [World.size_alloc] at lo7
  obtain ⟨A7, d7, B7, e7, rfl, rfl⟩ := ho7.slices
  obtain ⟨hc1x0, gc1x0⟩ := k1'''.at_ 0 (x := .slice Aa0 x0.g.length da0) rfl
  obtain ⟨hc1x1, gc1x1⟩ := k1'''.at_ 1 (x := .slice Ba0 x0.l.length ea0) rfl
  have l1 := k1'''.lt
  go_wp2_with fail
  clear hc1x0 gc1x0 hc1x1 gc1x1 l1
  have k1'''' := k1'''.alloc (.cells #[.slice A7 (allocH x0).g.length d7, .slice B7 (allocH x0).l.length e7] 28)
  clear k1'''
  have ho4'' := ho4'.below ((Below.refl _ _).alloc (Nat.le_refl _) (.cells #[.slice A7 (allocH x0).g.length d7, .slice B7 (allocH x0).l.length e7] 28))
  clear ho4'
  have ho7' := ho7.below ((Below.refl _ _).alloc (Nat.le_refl _) (.cells #[.slice A7 (allocH x0).g.length d7, .slice B7 (allocH x0).l.length e7] 28))
  clear ho7
  have hB''''' := hB''''.alloc hB''''.size (.cells #[.slice A7 (allocH x0).g.length d7, .slice B7 (allocH x0).l.length e7] 28)
  clear hB''''
  have k9 := Bk.new w6 #[.slice A7 (allocH x0).g.length d7, .slice B7 (allocH x0).l.length e7] 28
  have k1''''' := k1''''.alloc (.cells #[.int .i64 (allocR x0).a, .int .i64 (allocR x0).b] 37)
  clear k1''''
  have k9' := k9.alloc (.cells #[.int .i64 (allocR x0).a, .int .i64 (allocR x0).b] 37)
  clear k9
  have ho4''' := ho4''.below ((Below.refl _ _).alloc (Nat.le_refl _) (.cells #[.int .i64 (allocR x0).a, .int .i64 (allocR x0).b] 37))
  clear ho4''
  have ho7'' := ho7'.below ((Below.refl _ _).alloc (Nat.le_refl _) (.cells #[.int .i64 (allocR x0).a, .int .i64 (allocR x0).b] 37))
  clear ho7'
  have hB'''''' := hB'''''.alloc hB'''''.size (.cells #[.int .i64 (allocR x0).a, .int .i64 (allocR x0).b] 37)
  clear hB'''''
  have k10 := Bk.new (w6.alloc (.cells #[.slice A7 (allocH x0).g.length d7, .slice B7 (allocH x0).l.length e7] 28)) #[.int .i64 (allocR x0).a, .int .i64 (allocR x0).b] 37
  simp only [World.size_alloc] at k10
  refine (toHeap _ _ x0 _ (HAaH.out.below hB'''''') (by omega)).mono ?_
  rintro e w11 ⟨v11x0, v11x1, bs11, rfl, ho11, lo11, hb11⟩
  have sz12 := hb11.size
  try simp only [World.size_alloc] at sz12
  have hB''''''' := hB''''''.trans (hb11.mono hB''''''.size)
  clear hB''''''
  have k1'''''' := k1'''''.below hb11 k1'''''.lt
  clear k1'''''
  have k9'' := k9'.below hb11 k9'.lt
  clear k9'
  have k10' := k10.below hb11 k10.lt
  clear k10
  have ho4'''' := ho4'''.below hb11
  clear ho4'''
  have ho7''' := ho7''.below hb11
  clear ho7''
  have hi11 := ho11.lt
  try simp only [World.size_alloc] at lo11
  obtain ⟨A11, d11, B11, e11, rfl, rfl⟩ := ho11.slices
  obtain ⟨hc1x0, gc1x0⟩ := k1''''''.at_ 0 (x := .slice Aa0 x0.g.length da0) rfl
  obtain ⟨hc1x1, gc1x1⟩ := k1''''''.at_ 1 (x := .slice Ba0 x0.l.length ea0) rfl
  have l1 := k1''''''.lt
  obtain ⟨hc9x0, gc9x0⟩ := k9''.at_ 0 (x := .slice A7 (allocH x0).g.length d7) rfl
  obtain ⟨hc9x1, gc9x1⟩ := k9''.at_ 1 (x := .slice B7 (allocH x0).l.length e7) rfl
  have l9 := k9''.lt
  obtain ⟨hc10x0, gc10x0⟩ := k10'.at_ 0 (x := .int .i64 (allocR x0).a) rfl
  obtain ⟨hc10x1, gc10x1⟩ := k10'.at_ 1 (x := .int .i64 (allocR x0).b) rfl
  have l10 := k10'.lt
  go_wp2_with fail
  clear hc1x0 gc1x0 hc1x1 gc1x1 l1 hc9x0 gc9x0 hc9x1 gc9x1 l9 hc10x0 gc10x0 hc10x1 gc10x1 l10
  have k1''''''' := k1''''''.alloc (.cells #[.slice A11 x0.g.length d11, .slice B11 x0.l.length e11] 28)
  clear k1''''''
  have k9''' := k9''.alloc (.cells #[.slice A11 x0.g.length d11, .slice B11 x0.l.length e11] 28)
  clear k9''
  have k10'' := k10'.alloc (.cells #[.slice A11 x0.g.length d11, .slice B11 x0.l.length e11] 28)
  clear k10'
  have ho4''''' := ho4''''.below ((Below.refl _ _).alloc (Nat.le_refl _) (.cells #[.slice A11 x0.g.length d11, .slice B11 x0.l.length e11] 28))
  clear ho4''''
  have ho7'''' := ho7'''.below ((Below.refl _ _).alloc (Nat.le_refl _) (.cells #[.slice A11 x0.g.length d11, .slice B11 x0.l.length e11] 28))
  clear ho7'''
  have ho11' := ho11.below ((Below.refl _ _).alloc (Nat.le_refl _) (.cells #[.slice A11 x0.g.length d11, .slice B11 x0.l.length e11] 28))
  clear ho11
  have hB'''''''' := hB'''''''.alloc hB'''''''.size (.cells #[.slice A11 x0.g.length d11, .slice B11 x0.l.length e11] 28)
  clear hB'''''''
  have k13 := Bk.new w11 #[.slice A11 x0.g.length d11, .slice B11 x0.l.length e11] 28
  refine (impl_AllocObj _ _ x0 _ ho11'.rd (by omega)).mono ?_
  rintro e w14 ⟨v15x0, v15x1, bs15, rfl, ho15, lo15, hb15⟩
  have sz16 := hb15.size
  try simp only [World.size_alloc] at sz16
  have hB''''''''' := hB''''''''.trans (hb15.mono hB''''''''.size)
  clear hB''''''''
  have k1'''''''' := k1'''''''.below hb15 k1'''''''.lt
  clear k1'''''''
  have k9'''' := k9'''.below hb15 k9'''.lt
  clear k9'''
  have k10''' := k10''.below hb15 k10''.lt
  clear k10''
  have k13' := k13.below hb15 k13.lt
  clear k13
  have ho4'''''' := ho4'''''.below hb15
  clear ho4'''''
  have ho7''''' := ho7''''.below hb15
  clear ho7''''
  have ho11'' := ho11'.below hb15
  clear ho11'
  have hi15 := ho15.lt
  try simp only [World.size_alloc] at lo15
  obtain ⟨A15, d15, B15, e15, rfl, rfl⟩ := ho15.slices
  obtain ⟨hc1x0, gc1x0⟩ := k1''''''''.at_ 0 (x := .slice Aa0 x0.g.length da0) rfl
  obtain ⟨hc1x1, gc1x1⟩ := k1''''''''.at_ 1 (x := .slice Ba0 x0.l.length ea0) rfl
  have l1 := k1''''''''.lt
  obtain ⟨hc9x0, gc9x0⟩ := k9''''.at_ 0 (x := .slice A7 (allocH x0).g.length d7) rfl
  obtain ⟨hc9x1, gc9x1⟩ := k9''''.at_ 1 (x := .slice B7 (allocH x0).l.length e7) rfl
  have l9 := k9''''.lt
  obtain ⟨hc10x0, gc10x0⟩ := k10'''.at_ 0 (x := .int .i64 (allocR x0).a) rfl
  obtain ⟨hc10x1, gc10x1⟩ := k10'''.at_ 1 (x := .int .i64 (allocR x0).b) rfl
  have l10 := k10'''.lt
  obtain ⟨hc13x0, gc13x0⟩ := k13'.at_ 0 (x := .slice A11 x0.g.length d11) rfl
  obtain ⟨hc13x1, gc13x1⟩ := k13'.at_ 1 (x := .slice B11 x0.l.length e11) rfl
  have l13 := k13'.lt
  go_wp2_with fail
  clear hc1x0 gc1x0 hc1x1 gc1x1 l1 hc9x0 gc9x0 hc9x1 gc9x1 l9 hc10x0 gc10x0 hc10x1 gc10x1 l10 hc13x0 gc13x0 hc13x1 gc13x1 l13
  have k1''''''''' := k1''''''''.alloc (.cells #[.slice A15 (allocH x0).g.length d15, .slice B15 (allocH x0).l.length e15] 28)
  clear k1''''''''
  have k9''''' := k9''''.alloc (.cells #[.slice A15 (allocH x0).g.length d15, .slice B15 (allocH x0).l.length e15] 28)
  clear k9''''
  have k10'''' := k10'''.alloc (.cells #[.slice A15 (allocH x0).g.length d15, .slice B15 (allocH x0).l.length e15] 28)
  clear k10'''
  have k13'' := k13'.alloc (.cells #[.slice A15 (allocH x0).g.length d15, .slice B15 (allocH x0).l.length e15] 28)
  clear k13'
  have ho4''''''' := ho4''''''.below ((Below.refl _ _).alloc (Nat.le_refl _) (.cells #[.slice A15 (allocH x0).g.length d15, .slice B15 (allocH x0).l.length e15] 28))
  clear ho4''''''
  have ho7'''''' := ho7'''''.below ((Below.refl _ _).alloc (Nat.le_refl _) (.cells #[.slice A15 (allocH x0).g.length d15, .slice B15 (allocH x0).l.length e15] 28))
  clear ho7'''''
  have ho11''' := ho11''.below ((Below.refl _ _).alloc (Nat.le_refl _) (.cells #[.slice A15 (allocH x0).g.length d15, .slice B15 (allocH x0).l.length e15] 28))
  clear ho11''
  have ho15' := ho15.below ((Below.refl _ _).alloc (Nat.le_refl _) (.cells #[.slice A15 (allocH x0).g.length d15, .slice B15 (allocH x0).l.length e15] 28))
  clear ho15
  have hB'''''''''' := hB'''''''''.alloc hB'''''''''.size (.cells #[.slice A15 (allocH x0).g.length d15, .slice B15 (allocH x0).l.length e15] 28)
  clear hB'''''''''
  have k17 := Bk.new w14 #[.slice A15 (allocH x0).g.length d15, .slice B15 (allocH x0).l.length e15] 28
  have k1'''''''''' := k1'''''''''.alloc (.cells #[.int .i64 (allocR x0).a, .int .i64 (allocR x0).b] 37)
  clear k1'''''''''
  have k9'''''' := k9'''''.alloc (.cells #[.int .i64 (allocR x0).a, .int .i64 (allocR x0).b] 37)
  clear k9'''''
  have k10''''' := k10''''.alloc (.cells #[.int .i64 (allocR x0).a, .int .i64 (allocR x0).b] 37)
  clear k10''''
  have k13''' := k13''.alloc (.cells #[.int .i64 (allocR x0).a, .int .i64 (allocR x0).b] 37)
  clear k13''
  have k17' := k17.alloc (.cells #[.int .i64 (allocR x0).a, .int .i64 (allocR x0).b] 37)
  clear k17
  have ho4'''''''' := ho4'''''''.below ((Below.refl _ _).alloc (Nat.le_refl _) (.cells #[.int .i64 (allocR x0).a, .int .i64 (allocR x0).b] 37))
  clear ho4'''''''
  have ho7''''''' := ho7''''''.below ((Below.refl _ _).alloc (Nat.le_refl _) (.cells #[.int .i64 (allocR x0).a, .int .i64 (allocR x0).b] 37))
  clear ho7''''''
  have ho11'''' := ho11'''.below ((Below.refl _ _).alloc (Nat.le_refl _) (.cells #[.int .i64 (allocR x0).a, .int .i64 (allocR x0).b] 37))
  clear ho11'''
  have ho15'' := ho15'.below ((Below.refl _ _).alloc (Nat.le_refl _) (.cells #[.int .i64 (allocR x0).a, .int .i64 (allocR x0).b] 37))
  clear ho15'
  have hB''''''''''' := hB''''''''''.alloc hB''''''''''.size (.cells #[.int .i64 (allocR x0).a, .int .i64 (allocR x0).b] 37)
  clear hB''''''''''
  have k18 := Bk.new (w14.alloc (.cells #[.slice A15 (allocH x0).g.length d15, .slice B15 (allocH x0).l.length e15] 28)) #[.int .i64 (allocR x0).a, .int .i64 (allocR x0).b] 37
  simp only [World.size_alloc] at k18
  refine (eqHeap _ _ _ _ ((allocH x0)) ((allocH x0)) _ ho15''.rd ho7'''''''.rd).mono ?_
  rintro e w19 ⟨rfl, hb19⟩
  rw [decide_eq_true rfl]
  have sz20 := hb19.size
  try simp only [World.size_alloc] at sz20
  have hB'''''''''''' := hB'''''''''''.trans (hb19.mono hB'''''''''''.size)
  clear hB'''''''''''
  have k1''''''''''' := k1''''''''''.below hb19 k1''''''''''.lt
  clear k1''''''''''
  have k9''''''' := k9''''''.below hb19 k9''''''.lt
  clear k9''''''
  have k10'''''' := k10'''''.below hb19 k10'''''.lt
  clear k10'''''
  have k13'''' := k13'''.below hb19 k13'''.lt
  clear k13'''
  have k17'' := k17'.below hb19 k17'.lt
  clear k17'
  have k18' := k18.below hb19 k18.lt
  clear k18
  have ho4''''''''' := ho4''''''''.below hb19
  clear ho4''''''''
  have ho7'''''''' := ho7'''''''.below hb19
  clear ho7'''''''
  have ho11''''' := ho11''''.below hb19
  clear ho11''''
  have ho15''' := ho15''.below hb19
  clear ho15''
  obtain ⟨hc1x0, gc1x0⟩ := k1'''''''''''.at_ 0 (x := .slice Aa0 x0.g.length da0) rfl
  obtain ⟨hc1x1, gc1x1⟩ := k1'''''''''''.at_ 1 (x := .slice Ba0 x0.l.length ea0) rfl
  have l1 := k1'''''''''''.lt
  obtain ⟨hc9x0, gc9x0⟩ := k9'''''''.at_ 0 (x := .slice A7 (allocH x0).g.length d7) rfl
  obtain ⟨hc9x1, gc9x1⟩ := k9'''''''.at_ 1 (x := .slice B7 (allocH x0).l.length e7) rfl
  have l9 := k9'''''''.lt
  obtain ⟨hc10x0, gc10x0⟩ := k10''''''.at_ 0 (x := .int .i64 (allocR x0).a) rfl
  obtain ⟨hc10x1, gc10x1⟩ := k10''''''.at_ 1 (x := .int .i64 (allocR x0).b) rfl
  have l10 := k10''''''.lt
  obtain ⟨hc13x0, gc13x0⟩ := k13''''.at_ 0 (x := .slice A11 x0.g.length d11) rfl
  obtain ⟨hc13x1, gc13x1⟩ := k13''''.at_ 1 (x := .slice B11 x0.l.length e11) rfl
  have l13 := k13''''.lt
  obtain ⟨hc17x0, gc17x0⟩ := k17''.at_ 0 (x := .slice A15 (allocH x0).g.length d15) rfl
  obtain ⟨hc17x1, gc17x1⟩ := k17''.at_ 1 (x := .slice B15 (allocH x0).l.length e15) rfl
  have l17 := k17''.lt
  obtain ⟨hc18x0, gc18x0⟩ := k18'.at_ 0 (x := .int .i64 (allocR x0).a) rfl
  obtain ⟨hc18x1, gc18x1⟩ := k18'.at_ 1 (x := .int .i64 (allocR x0).b) rfl
  have l18 := k18'.lt
  go_wp2_with fail
  refine (eqRef ((allocR x0)) ((allocR x0)) _).mono ?_
  rintro e w21 ⟨rfl, hb21⟩
  rw [decide_eq_true rfl]
  clear hc1x0 gc1x0 hc1x1 gc1x1 l1 hc9x0 gc9x0 hc9x1 gc9x1 l9 hc10x0 gc10x0 hc10x1 gc10x1 l10 hc13x0 gc13x0 hc13x1 gc13x1 l13 hc17x0 gc17x0 hc17x1 gc17x1 l17 hc18x0 gc18x0 hc18x1 gc18x1 l18
  have sz22 := hb21.size
  try simp only [World.size_alloc] at sz22
  have hB''''''''''''' := hB''''''''''''.trans (hb21.mono hB''''''''''''.size)
  clear hB''''''''''''
  have k1'''''''''''' := k1'''''''''''.below hb21 k1'''''''''''.lt
  clear k1'''''''''''
  have k9'''''''' := k9'''''''.below hb21 k9'''''''.lt
  clear k9'''''''
  have k10''''''' := k10''''''.below hb21 k10''''''.lt
  clear k10''''''
  have k13''''' := k13''''.below hb21 k13''''.lt
  clear k13''''
  have k17''' := k17''.below hb21 k17''.lt
  clear k17''
  have k18'' := k18'.below hb21 k18'.lt
  clear k18'
  have ho4'''''''''' := ho4'''''''''.below hb21
  clear ho4'''''''''
  have ho7''''''''' := ho7''''''''.below hb21
  clear ho7''''''''
  have ho11'''''' := ho11'''''.below hb21
  clear ho11'''''
  have ho15'''' := ho15'''.below hb21
  clear ho15'''
  obtain ⟨hc1x0, gc1x0⟩ := k1''''''''''''.at_ 0 (x := .slice Aa0 x0.g.length da0) rfl
  obtain ⟨hc1x1, gc1x1⟩ := k1''''''''''''.at_ 1 (x := .slice Ba0 x0.l.length ea0) rfl
  have l1 := k1''''''''''''.lt
  obtain ⟨hc9x0, gc9x0⟩ := k9''''''''.at_ 0 (x := .slice A7 (allocH x0).g.length d7) rfl
  obtain ⟨hc9x1, gc9x1⟩ := k9''''''''.at_ 1 (x := .slice B7 (allocH x0).l.length e7) rfl
  have l9 := k9''''''''.lt
  obtain ⟨hc10x0, gc10x0⟩ := k10'''''''.at_ 0 (x := .int .i64 (allocR x0).a) rfl
  obtain ⟨hc10x1, gc10x1⟩ := k10'''''''.at_ 1 (x := .int .i64 (allocR x0).b) rfl
  have l10 := k10'''''''.lt
  obtain ⟨hc13x0, gc13x0⟩ := k13'''''.at_ 0 (x := .slice A11 x0.g.length d11) rfl
  obtain ⟨hc13x1, gc13x1⟩ := k13'''''.at_ 1 (x := .slice B11 x0.l.length e11) rfl
  have l13 := k13'''''.lt
  obtain ⟨hc17x0, gc17x0⟩ := k17'''.at_ 0 (x := .slice A15 (allocH x0).g.length d15) rfl
  obtain ⟨hc17x1, gc17x1⟩ := k17'''.at_ 1 (x := .slice B15 (allocH x0).l.length e15) rfl
  have l17 := k17'''.lt
  obtain ⟨hc18x0, gc18x0⟩ := k18''.at_ 0 (x := .int .i64 (allocR x0).a) rfl
  obtain ⟨hc18x1, gc18x1⟩ := k18''.at_ 1 (x := .int .i64 (allocR x0).b) rfl
  have l18 := k18''.lt
  go_wp2_with fail
  clear hc1x0 gc1x0 hc1x1 gc1x1 l1 hc9x0 gc9x0 hc9x1 gc9x1 l9 hc10x0 gc10x0 hc10x1 gc10x1 l10 hc13x0 gc13x0 hc13x1 gc13x1 l13 hc17x0 gc17x0 hc17x1 gc17x1 l17 hc18x0 gc18x0 hc18x1 gc18x1 l18
  obtain ⟨hc1x0, gc1x0⟩ := k1''''''''''''.at_ 0 (x := .slice Aa0 x0.g.length da0) rfl
  obtain ⟨hc1x1, gc1x1⟩ := k1''''''''''''.at_ 1 (x := .slice Ba0 x0.l.length ea0) rfl
  have l1 := k1''''''''''''.lt
  obtain ⟨hc9x0, gc9x0⟩ := k9''''''''.at_ 0 (x := .slice A7 (allocH x0).g.length d7) rfl
  obtain ⟨hc9x1, gc9x1⟩ := k9''''''''.at_ 1 (x := .slice B7 (allocH x0).l.length e7) rfl
  have l9 := k9''''''''.lt
  obtain ⟨hc10x0, gc10x0⟩ := k10'''''''.at_ 0 (x := .int .i64 (allocR x0).a) rfl
  obtain ⟨hc10x1, gc10x1⟩ := k10'''''''.at_ 1 (x := .int .i64 (allocR x0).b) rfl
  have l10 := k10'''''''.lt
  obtain ⟨hc13x0, gc13x0⟩ := k13'''''.at_ 0 (x := .slice A11 x0.g.length d11) rfl
  obtain ⟨hc13x1, gc13x1⟩ := k13'''''.at_ 1 (x := .slice B11 x0.l.length e11) rfl
  have l13 := k13'''''.lt
  obtain ⟨hc17x0, gc17x0⟩ := k17'''.at_ 0 (x := .slice A15 (allocH x0).g.length d15) rfl
  obtain ⟨hc17x1, gc17x1⟩ := k17'''.at_ 1 (x := .slice B15 (allocH x0).l.length e15) rfl
  have l17 := k17'''.lt
  obtain ⟨hc18x0, gc18x0⟩ := k18''.at_ 0 (x := .int .i64 (allocR x0).a) rfl
  obtain ⟨hc18x1, gc18x1⟩ := k18''.at_ 1 (x := .int .i64 (allocR x0).b) rfl
  have l18 := k18''.lt
  have HS24 : Hid (∀ W : World, Below w21.heap.size w21 W → Below w21.heap.size w21 W ∧ W.cell? ⟨w11.heap.size, 0, none⟩ = some (.slice A11 x0.g.length d11) ∧ W.cell? ⟨w11.heap.size, 1, none⟩ = some (.slice B11 x0.l.length e11) ∧ W.cell? ⟨w.heap.size, 0, none⟩ = some (.slice Aa0 x0.g.length da0) ∧ W.cell? ⟨w.heap.size, 1, none⟩ = some (.slice Ba0 x0.l.length ea0)) := Lib.hid fun W hW => ⟨hW, (hW.cell (p := ⟨w11.heap.size, 0, none⟩) k13'''''.lt).trans hc13x0, (hW.cell (p := ⟨w11.heap.size, 1, none⟩) k13'''''.lt).trans hc13x1, (hW.cell (p := ⟨w.heap.size, 0, none⟩) k1''''''''''''.lt).trans hc1x0, (hW.cell (p := ⟨w.heap.size, 1, none⟩) k1''''''''''''.lt).trans hc1x1⟩
  have HhB_____________ := Lib.hid hB'''''''''''''
  have Hho4__________ := Lib.hid ho4''''''''''
  have Hho7_________ := Lib.hid ho7'''''''''
  have Hho11______ := Lib.hid ho11''''''
  have Hho15____ := Lib.hid ho15''''
  go_region_held3 (fun W => Below w21.heap.size w21 W ∧ W.cell? ⟨w11.heap.size, 0, none⟩ = some (.slice A11 x0.g.length d11) ∧ W.cell? ⟨w11.heap.size, 1, none⟩ = some (.slice B11 x0.l.length e11) ∧ W.cell? ⟨w.heap.size, 0, none⟩ = some (.slice Aa0 x0.g.length da0) ∧ W.cell? ⟨w.heap.size, 1, none⟩ = some (.slice Ba0 x0.l.length ea0)) (first | (exact HS24.out _ (Below.refl _ _).drew) | (exact HS24.out _ (by assumption)))
    (first
      | (go_at_call 11; have hS := ‹Below w21.heap.size w21 _ ∧ _›.1; refine (toHeap _ _ x0 _ (HAaH.out.below (HhB_____________.out.trans (hS.mono HhB_____________.out.size))) (by omega)).mono ?_; rintro e wa23 ⟨vv0, vv1, bsw, rfl, how, low, hbw23⟩; have HO23 := Lib.hid how; clear how low; have hS24x0 := hS.trans (hbw23.mono hS.size); clear hS)
      | (go_at_call 13; have hS := ‹Below w21.heap.size w21 _ ∧ _›.1; refine (eqHeap _ _ _ _ (x0) (x0) _ (Hho11______.out.below hS).rd HO23.out.rd).mono ?_; rintro e w23 ⟨rfl, hbe23⟩; have hS24x1 := hS.trans (hbe23.mono hS.size); clear hS))
  have hS24 := ‹Below w21.heap.size w21 _ ∧ _›.1
  clear HS24 HhB_____________ Hho4__________ Hho7_________ Hho11______ Hho15____
  clear hc1x0 gc1x0 hc1x1 gc1x1 l1 hc9x0 gc9x0 hc9x1 gc9x1 l9 hc10x0 gc10x0 hc10x1 gc10x1 l10 hc13x0 gc13x0 hc13x1 gc13x1 l13 hc17x0 gc17x0 hc17x1 gc17x1 l17 hc18x0 gc18x0 hc18x1 gc18x1 l18
  have sz25 := hS24.size
  try simp only [World.size_alloc] at sz25
  have hB'''''''''''''' := hB'''''''''''''.trans (hS24.mono hB'''''''''''''.size)
  clear hB'''''''''''''
  have k1''''''''''''' := k1''''''''''''.below hS24 k1''''''''''''.lt
  clear k1''''''''''''
  have k9''''''''' := k9''''''''.below hS24 k9''''''''.lt
  clear k9''''''''
  have k10'''''''' := k10'''''''.below hS24 k10'''''''.lt
  clear k10'''''''
  have k13'''''' := k13'''''.below hS24 k13'''''.lt
  clear k13'''''
  have k17'''' := k17'''.below hS24 k17'''.lt
  clear k17'''
  have k18''' := k18''.below hS24 k18''.lt
  clear k18''
  have ho4''''''''''' := ho4''''''''''.below hS24
  clear ho4''''''''''
  have ho7'''''''''' := ho7'''''''''.below hS24
  clear ho7'''''''''
  have ho11''''''' := ho11''''''.below hS24
  clear ho11''''''
  have ho15''''' := ho15''''.below hS24
  clear ho15''''
  clear hS24
  clear HO23
  obtain ⟨hc1x0, gc1x0⟩ := k1'''''''''''''.at_ 0 (x := .slice Aa0 x0.g.length da0) rfl
  obtain ⟨hc1x1, gc1x1⟩ := k1'''''''''''''.at_ 1 (x := .slice Ba0 x0.l.length ea0) rfl
  have l1 := k1'''''''''''''.lt
  obtain ⟨hc9x0, gc9x0⟩ := k9'''''''''.at_ 0 (x := .slice A7 (allocH x0).g.length d7) rfl
  obtain ⟨hc9x1, gc9x1⟩ := k9'''''''''.at_ 1 (x := .slice B7 (allocH x0).l.length e7) rfl
  have l9 := k9'''''''''.lt
  obtain ⟨hc10x0, gc10x0⟩ := k10''''''''.at_ 0 (x := .int .i64 (allocR x0).a) rfl
  obtain ⟨hc10x1, gc10x1⟩ := k10''''''''.at_ 1 (x := .int .i64 (allocR x0).b) rfl
  have l10 := k10''''''''.lt
  obtain ⟨hc13x0, gc13x0⟩ := k13''''''.at_ 0 (x := .slice A11 x0.g.length d11) rfl
  obtain ⟨hc13x1, gc13x1⟩ := k13''''''.at_ 1 (x := .slice B11 x0.l.length e11) rfl
  have l13 := k13''''''.lt
  obtain ⟨hc17x0, gc17x0⟩ := k17''''.at_ 0 (x := .slice A15 (allocH x0).g.length d15) rfl
  obtain ⟨hc17x1, gc17x1⟩ := k17''''.at_ 1 (x := .slice B15 (allocH x0).l.length e15) rfl
  have l17 := k17''''.lt
  obtain ⟨hc18x0, gc18x0⟩ := k18'''.at_ 0 (x := .int .i64 (allocR x0).a) rfl
  obtain ⟨hc18x1, gc18x1⟩ := k18'''.at_ 1 (x := .int .i64 (allocR x0).b) rfl
  have l18 := k18'''.lt
  go_wp2_with fail
  refine (markHeap _ _ x0 bs11 (1) _ ho11''''''' (by omega) (by omega) (by omega)).mono ?_
  rintro e w26 ⟨rfl, hq26, hon26⟩
  clear hc1x0 gc1x0 hc1x1 gc1x1 l1 hc9x0 gc9x0 hc9x1 gc9x1 l9 hc10x0 gc10x0 hc10x1 gc10x1 l10 hc13x0 gc13x0 hc13x1 gc13x1 l13 hc17x0 gc17x0 hc17x1 gc17x1 l17 hc18x0 gc18x0 hc18x1 gc18x1 l18
  have sz27 := hon26.size
  try simp only [World.size_alloc] at sz27
  have hB''''''''''''''' := hB''''''''''''''.trans (hon26.below hB''''''''''''''.size (fun b hb => by have := lo11 b hb; omega))
  clear hB''''''''''''''
  have k1'''''''''''''' := k1'''''''''''''.only hon26 (fun hm => by have := lo11 _ hm; have := hi11 _ hm; omega)
  clear k1'''''''''''''
  have k9'''''''''' := k9'''''''''.only hon26 (fun hm => by have := lo11 _ hm; have := hi11 _ hm; omega)
  clear k9'''''''''
  have k10''''''''' := k10''''''''.only hon26 (fun hm => by have := lo11 _ hm; have := hi11 _ hm; omega)
  clear k10''''''''
  have k13''''''' := k13''''''.only hon26 (fun hm => by have := lo11 _ hm; have := hi11 _ hm; omega)
  clear k13''''''
  have k17''''' := k17''''.only hon26 (fun hm => by have := lo11 _ hm; have := hi11 _ hm; omega)
  clear k17''''
  have k18'''' := k18'''.only hon26 (fun hm => by have := lo11 _ hm; have := hi11 _ hm; omega)
  clear k18'''
  have ho4'''''''''''' := ho4'''''''''''.only hon26 (fun b hb hm => by have := lo11 b hm; have := hi11 b hm; have := lo4 b hb; have := hi4 b hb; omega)
  clear ho4'''''''''''
  have ho7''''''''''' := ho7''''''''''.only hon26 (fun b hb hm => by have := lo11 b hm; have := hi11 b hm; have := lo7 b hb; have := hi7 b hb; omega)
  clear ho7''''''''''
  have ho15'''''' := ho15'''''.only hon26 (fun b hb hm => by have := lo11 b hm; have := hi11 b hm; have := lo15 b hb; have := hi15 b hb; omega)
  clear ho15'''''
  obtain ⟨hc1x0, gc1x0⟩ := k1''''''''''''''.at_ 0 (x := .slice Aa0 x0.g.length da0) rfl
  obtain ⟨hc1x1, gc1x1⟩ := k1''''''''''''''.at_ 1 (x := .slice Ba0 x0.l.length ea0) rfl
  have l1 := k1''''''''''''''.lt
  obtain ⟨hc9x0, gc9x0⟩ := k9''''''''''.at_ 0 (x := .slice A7 (allocH x0).g.length d7) rfl
  obtain ⟨hc9x1, gc9x1⟩ := k9''''''''''.at_ 1 (x := .slice B7 (allocH x0).l.length e7) rfl
  have l9 := k9''''''''''.lt
  obtain ⟨hc10x0, gc10x0⟩ := k10'''''''''.at_ 0 (x := .int .i64 (allocR x0).a) rfl
  obtain ⟨hc10x1, gc10x1⟩ := k10'''''''''.at_ 1 (x := .int .i64 (allocR x0).b) rfl
  have l10 := k10'''''''''.lt
  obtain ⟨hc13x0, gc13x0⟩ := k13'''''''.at_ 0 (x := .slice A11 x0.g.length d11) rfl
  obtain ⟨hc13x1, gc13x1⟩ := k13'''''''.at_ 1 (x := .slice B11 x0.l.length e11) rfl
  have l13 := k13'''''''.lt
  obtain ⟨hc17x0, gc17x0⟩ := k17'''''.at_ 0 (x := .slice A15 (allocH x0).g.length d15) rfl
  obtain ⟨hc17x1, gc17x1⟩ := k17'''''.at_ 1 (x := .slice B15 (allocH x0).l.length e15) rfl
  have l17 := k17'''''.lt
  obtain ⟨hc18x0, gc18x0⟩ := k18''''.at_ 0 (x := .int .i64 (allocR x0).a) rfl
  obtain ⟨hc18x1, gc18x1⟩ := k18''''.at_ 1 (x := .int .i64 (allocR x0).b) rfl
  have l18 := k18''''.lt
  go_wp2_with fail
  refine (eqHeap _ _ _ _ ((allocH x0)) ((allocH x0)) _ ho15''''''.rd ho7'''''''''''.rd).mono ?_
  rintro e w28 ⟨rfl, hb28⟩
  rw [decide_eq_true rfl]
  clear hc1x0 gc1x0 hc1x1 gc1x1 l1 hc9x0 gc9x0 hc9x1 gc9x1 l9 hc10x0 gc10x0 hc10x1 gc10x1 l10 hc13x0 gc13x0 hc13x1 gc13x1 l13 hc17x0 gc17x0 hc17x1 gc17x1 l17 hc18x0 gc18x0 hc18x1 gc18x1 l18
  have sz29 := hb28.size
  try simp only [World.size_alloc] at sz29
  have hB'''''''''''''''' := hB'''''''''''''''.trans (hb28.mono hB'''''''''''''''.size)
  clear hB'''''''''''''''
  have k1''''''''''''''' := k1''''''''''''''.below hb28 k1''''''''''''''.lt
  clear k1''''''''''''''
  have k9''''''''''' := k9''''''''''.below hb28 k9''''''''''.lt
  clear k9''''''''''
  have k10'''''''''' := k10'''''''''.below hb28 k10'''''''''.lt
  clear k10'''''''''
  have k13'''''''' := k13'''''''.below hb28 k13'''''''.lt
  clear k13'''''''
  have k17'''''' := k17'''''.below hb28 k17'''''.lt
  clear k17'''''
  have k18''''' := k18''''.below hb28 k18''''.lt
  clear k18''''
  have ho4''''''''''''' := ho4''''''''''''.below hb28
  clear ho4''''''''''''
  have ho7'''''''''''' := ho7'''''''''''.below hb28
  clear ho7'''''''''''
  have hq26' := hq26.below hb28
  clear hq26
  have ho15''''''' := ho15''''''.below hb28
  clear ho15''''''
  obtain ⟨hc1x0, gc1x0⟩ := k1'''''''''''''''.at_ 0 (x := .slice Aa0 x0.g.length da0) rfl
  obtain ⟨hc1x1, gc1x1⟩ := k1'''''''''''''''.at_ 1 (x := .slice Ba0 x0.l.length ea0) rfl
  have l1 := k1'''''''''''''''.lt
  obtain ⟨hc9x0, gc9x0⟩ := k9'''''''''''.at_ 0 (x := .slice A7 (allocH x0).g.length d7) rfl
  obtain ⟨hc9x1, gc9x1⟩ := k9'''''''''''.at_ 1 (x := .slice B7 (allocH x0).l.length e7) rfl
  have l9 := k9'''''''''''.lt
  obtain ⟨hc10x0, gc10x0⟩ := k10''''''''''.at_ 0 (x := .int .i64 (allocR x0).a) rfl
  obtain ⟨hc10x1, gc10x1⟩ := k10''''''''''.at_ 1 (x := .int .i64 (allocR x0).b) rfl
  have l10 := k10''''''''''.lt
  obtain ⟨hc13x0, gc13x0⟩ := k13''''''''.at_ 0 (x := .slice A11 x0.g.length d11) rfl
  obtain ⟨hc13x1, gc13x1⟩ := k13''''''''.at_ 1 (x := .slice B11 x0.l.length e11) rfl
  have l13 := k13''''''''.lt
  obtain ⟨hc17x0, gc17x0⟩ := k17''''''.at_ 0 (x := .slice A15 (allocH x0).g.length d15) rfl
  obtain ⟨hc17x1, gc17x1⟩ := k17''''''.at_ 1 (x := .slice B15 (allocH x0).l.length e15) rfl
  have l17 := k17''''''.lt
  obtain ⟨hc18x0, gc18x0⟩ := k18'''''.at_ 0 (x := .int .i64 (allocR x0).a) rfl
  obtain ⟨hc18x1, gc18x1⟩ := k18'''''.at_ 1 (x := .int .i64 (allocR x0).b) rfl
  have l18 := k18'''''.lt
  go_wp2_with fail
  refine (eqRef ((allocR x0)) ((allocR x0)) _).mono ?_
  rintro e w30 ⟨rfl, hb30⟩
  rw [decide_eq_true rfl]
  clear hc1x0 gc1x0 hc1x1 gc1x1 l1 hc9x0 gc9x0 hc9x1 gc9x1 l9 hc10x0 gc10x0 hc10x1 gc10x1 l10 hc13x0 gc13x0 hc13x1 gc13x1 l13 hc17x0 gc17x0 hc17x1 gc17x1 l17 hc18x0 gc18x0 hc18x1 gc18x1 l18
  have sz31 := hb30.size
  try simp only [World.size_alloc] at sz31
  have hB''''''''''''''''' := hB''''''''''''''''.trans (hb30.mono hB''''''''''''''''.size)
  clear hB''''''''''''''''
  have k1'''''''''''''''' := k1'''''''''''''''.below hb30 k1'''''''''''''''.lt
  clear k1'''''''''''''''
  have k9'''''''''''' := k9'''''''''''.below hb30 k9'''''''''''.lt
  clear k9'''''''''''
  have k10''''''''''' := k10''''''''''.below hb30 k10''''''''''.lt
  clear k10''''''''''
  have k13''''''''' := k13''''''''.below hb30 k13''''''''.lt
  clear k13''''''''
  have k17''''''' := k17''''''.below hb30 k17''''''.lt
  clear k17''''''
  have k18'''''' := k18'''''.below hb30 k18'''''.lt
  clear k18'''''
  have ho4'''''''''''''' := ho4'''''''''''''.below hb30
  clear ho4'''''''''''''
  have ho7''''''''''''' := ho7''''''''''''.below hb30
  clear ho7''''''''''''
  have hq26'' := hq26'.below hb30
  clear hq26'
  have ho15'''''''' := ho15'''''''.below hb30
  clear ho15'''''''
  obtain ⟨hc1x0, gc1x0⟩ := k1''''''''''''''''.at_ 0 (x := .slice Aa0 x0.g.length da0) rfl
  obtain ⟨hc1x1, gc1x1⟩ := k1''''''''''''''''.at_ 1 (x := .slice Ba0 x0.l.length ea0) rfl
  have l1 := k1''''''''''''''''.lt
  obtain ⟨hc9x0, gc9x0⟩ := k9''''''''''''.at_ 0 (x := .slice A7 (allocH x0).g.length d7) rfl
  obtain ⟨hc9x1, gc9x1⟩ := k9''''''''''''.at_ 1 (x := .slice B7 (allocH x0).l.length e7) rfl
  have l9 := k9''''''''''''.lt
  obtain ⟨hc10x0, gc10x0⟩ := k10'''''''''''.at_ 0 (x := .int .i64 (allocR x0).a) rfl
  obtain ⟨hc10x1, gc10x1⟩ := k10'''''''''''.at_ 1 (x := .int .i64 (allocR x0).b) rfl
  have l10 := k10'''''''''''.lt
  obtain ⟨hc13x0, gc13x0⟩ := k13'''''''''.at_ 0 (x := .slice A11 x0.g.length d11) rfl
  obtain ⟨hc13x1, gc13x1⟩ := k13'''''''''.at_ 1 (x := .slice B11 x0.l.length e11) rfl
  have l13 := k13'''''''''.lt
  obtain ⟨hc17x0, gc17x0⟩ := k17'''''''.at_ 0 (x := .slice A15 (allocH x0).g.length d15) rfl
  obtain ⟨hc17x1, gc17x1⟩ := k17'''''''.at_ 1 (x := .slice B15 (allocH x0).l.length e15) rfl
  have l17 := k17'''''''.lt
  obtain ⟨hc18x0, gc18x0⟩ := k18''''''.at_ 0 (x := .int .i64 (allocR x0).a) rfl
  obtain ⟨hc18x1, gc18x1⟩ := k18''''''.at_ 1 (x := .int .i64 (allocR x0).b) rfl
  have l18 := k18''''''.lt
  go_wp2_with fail
  refine (markHeap _ _ (allocH x0) bs15 (1) _ ho15'''''''' (by omega) (by omega) (by omega)).mono ?_
  rintro e w32 ⟨rfl, hq32, hon32⟩
  clear hc1x0 gc1x0 hc1x1 gc1x1 l1 hc9x0 gc9x0 hc9x1 gc9x1 l9 hc10x0 gc10x0 hc10x1 gc10x1 l10 hc13x0 gc13x0 hc13x1 gc13x1 l13 hc17x0 gc17x0 hc17x1 gc17x1 l17 hc18x0 gc18x0 hc18x1 gc18x1 l18
  have sz33 := hon32.size
  try simp only [World.size_alloc] at sz33
  have hB'''''''''''''''''' := hB'''''''''''''''''.trans (hon32.below hB'''''''''''''''''.size (fun b hb => by have := lo15 b hb; omega))
  clear hB'''''''''''''''''
  have k1''''''''''''''''' := k1''''''''''''''''.only hon32 (fun hm => by have := lo15 _ hm; have := hi15 _ hm; omega)
  clear k1''''''''''''''''
  have k9''''''''''''' := k9''''''''''''.only hon32 (fun hm => by have := lo15 _ hm; have := hi15 _ hm; omega)
  clear k9''''''''''''
  have k10'''''''''''' := k10'''''''''''.only hon32 (fun hm => by have := lo15 _ hm; have := hi15 _ hm; omega)
  clear k10'''''''''''
  have k13'''''''''' := k13'''''''''.only hon32 (fun hm => by have := lo15 _ hm; have := hi15 _ hm; omega)
  clear k13'''''''''
  have k17'''''''' := k17'''''''.only hon32 (fun hm => by have := lo15 _ hm; have := hi15 _ hm; omega)
  clear k17'''''''
  have k18''''''' := k18''''''.only hon32 (fun hm => by have := lo15 _ hm; have := hi15 _ hm; omega)
  clear k18''''''
  have ho4''''''''''''''' := ho4''''''''''''''.only hon32 (fun b hb hm => by have := lo15 b hm; have := hi15 b hm; have := lo4 b hb; have := hi4 b hb; omega)
  clear ho4''''''''''''''
  have ho7'''''''''''''' := ho7'''''''''''''.only hon32 (fun b hb hm => by have := lo15 b hm; have := hi15 b hm; have := lo7 b hb; have := hi7 b hb; omega)
  clear ho7'''''''''''''
  have hq26''' := hq26''.only hon32 (fun b hb hm => by have := lo15 b hm; have := hi15 b hm; have := lo11 b hb; have := hi11 b hb; omega)
  clear hq26''
  obtain ⟨hc1x0, gc1x0⟩ := k1'''''''''''''''''.at_ 0 (x := .slice Aa0 x0.g.length da0) rfl
  obtain ⟨hc1x1, gc1x1⟩ := k1'''''''''''''''''.at_ 1 (x := .slice Ba0 x0.l.length ea0) rfl
  have l1 := k1'''''''''''''''''.lt
  obtain ⟨hc9x0, gc9x0⟩ := k9'''''''''''''.at_ 0 (x := .slice A7 (allocH x0).g.length d7) rfl
  obtain ⟨hc9x1, gc9x1⟩ := k9'''''''''''''.at_ 1 (x := .slice B7 (allocH x0).l.length e7) rfl
  have l9 := k9'''''''''''''.lt
  obtain ⟨hc10x0, gc10x0⟩ := k10''''''''''''.at_ 0 (x := .int .i64 (allocR x0).a) rfl
  obtain ⟨hc10x1, gc10x1⟩ := k10''''''''''''.at_ 1 (x := .int .i64 (allocR x0).b) rfl
  have l10 := k10''''''''''''.lt
  obtain ⟨hc13x0, gc13x0⟩ := k13''''''''''.at_ 0 (x := .slice A11 x0.g.length d11) rfl
  obtain ⟨hc13x1, gc13x1⟩ := k13''''''''''.at_ 1 (x := .slice B11 x0.l.length e11) rfl
  have l13 := k13''''''''''.lt
  obtain ⟨hc17x0, gc17x0⟩ := k17''''''''.at_ 0 (x := .slice A15 (allocH x0).g.length d15) rfl
  obtain ⟨hc17x1, gc17x1⟩ := k17''''''''.at_ 1 (x := .slice B15 (allocH x0).l.length e15) rfl
  have l17 := k17''''''''.lt
  obtain ⟨hc18x0, gc18x0⟩ := k18'''''''.at_ 0 (x := .int .i64 (allocR x0).a) rfl
  obtain ⟨hc18x1, gc18x1⟩ := k18'''''''.at_ 1 (x := .int .i64 (allocR x0).b) rfl
  have l18 := k18'''''''.lt
  go_wp2_with fail
  refine (heldHeap _ _ (allocH x0) (1) _ hq32.rd (by omega) (by omega) (by omega)).mono ?_
  rintro e w34 ⟨rfl, hb34⟩
  clear hc1x0 gc1x0 hc1x1 gc1x1 l1 hc9x0 gc9x0 hc9x1 gc9x1 l9 hc10x0 gc10x0 hc10x1 gc10x1 l10 hc13x0 gc13x0 hc13x1 gc13x1 l13 hc17x0 gc17x0 hc17x1 gc17x1 l17 hc18x0 gc18x0 hc18x1 gc18x1 l18
  have sz35 := hb34.size
  try simp only [World.size_alloc] at sz35
  have hB''''''''''''''''''' := hB''''''''''''''''''.trans (hb34.mono hB''''''''''''''''''.size)
  clear hB''''''''''''''''''
  have k1'''''''''''''''''' := k1'''''''''''''''''.below hb34 k1'''''''''''''''''.lt
  clear k1'''''''''''''''''
  have k9'''''''''''''' := k9'''''''''''''.below hb34 k9'''''''''''''.lt
  clear k9'''''''''''''
  have k10''''''''''''' := k10''''''''''''.below hb34 k10''''''''''''.lt
  clear k10''''''''''''
  have k13''''''''''' := k13''''''''''.below hb34 k13''''''''''.lt
  clear k13''''''''''
  have k17''''''''' := k17''''''''.below hb34 k17''''''''.lt
  clear k17''''''''
  have k18'''''''' := k18'''''''.below hb34 k18'''''''.lt
  clear k18'''''''
  have ho4'''''''''''''''' := ho4'''''''''''''''.below hb34
  clear ho4'''''''''''''''
  have ho7''''''''''''''' := ho7''''''''''''''.below hb34
  clear ho7''''''''''''''
  have hq26'''' := hq26'''.below hb34
  clear hq26'''
  have hq32' := hq32.below hb34
  clear hq32
  obtain ⟨hc1x0, gc1x0⟩ := k1''''''''''''''''''.at_ 0 (x := .slice Aa0 x0.g.length da0) rfl
  obtain ⟨hc1x1, gc1x1⟩ := k1''''''''''''''''''.at_ 1 (x := .slice Ba0 x0.l.length ea0) rfl
  have l1 := k1''''''''''''''''''.lt
  obtain ⟨hc9x0, gc9x0⟩ := k9''''''''''''''.at_ 0 (x := .slice A7 (allocH x0).g.length d7) rfl
  obtain ⟨hc9x1, gc9x1⟩ := k9''''''''''''''.at_ 1 (x := .slice B7 (allocH x0).l.length e7) rfl
  have l9 := k9''''''''''''''.lt
  obtain ⟨hc10x0, gc10x0⟩ := k10'''''''''''''.at_ 0 (x := .int .i64 (allocR x0).a) rfl
  obtain ⟨hc10x1, gc10x1⟩ := k10'''''''''''''.at_ 1 (x := .int .i64 (allocR x0).b) rfl
  have l10 := k10'''''''''''''.lt
  obtain ⟨hc13x0, gc13x0⟩ := k13'''''''''''.at_ 0 (x := .slice A11 x0.g.length d11) rfl
  obtain ⟨hc13x1, gc13x1⟩ := k13'''''''''''.at_ 1 (x := .slice B11 x0.l.length e11) rfl
  have l13 := k13'''''''''''.lt
  obtain ⟨hc17x0, gc17x0⟩ := k17'''''''''.at_ 0 (x := .slice A15 (allocH x0).g.length d15) rfl
  obtain ⟨hc17x1, gc17x1⟩ := k17'''''''''.at_ 1 (x := .slice B15 (allocH x0).l.length e15) rfl
  have l17 := k17'''''''''.lt
  obtain ⟨hc18x0, gc18x0⟩ := k18''''''''.at_ 0 (x := .int .i64 (allocR x0).a) rfl
  obtain ⟨hc18x1, gc18x1⟩ := k18''''''''.at_ 1 (x := .int .i64 (allocR x0).b) rfl
  have l18 := k18''''''''.lt
  go_wp2_with fail
  refine (toHeap _ _ x0 _ (HAaH.out.below hB''''''''''''''''''') (by omega)).mono ?_
  rintro e w36 ⟨v36x0, v36x1, bs36, rfl, ho36, lo36, hb36⟩
  clear hc1x0 gc1x0 hc1x1 gc1x1 l1 hc9x0 gc9x0 hc9x1 gc9x1 l9 hc10x0 gc10x0 hc10x1 gc10x1 l10 hc13x0 gc13x0 hc13x1 gc13x1 l13 hc17x0 gc17x0 hc17x1 gc17x1 l17 hc18x0 gc18x0 hc18x1 gc18x1 l18
  have sz37 := hb36.size
  try simp only [World.size_alloc] at sz37
  have hB'''''''''''''''''''' := hB'''''''''''''''''''.trans (hb36.mono hB'''''''''''''''''''.size)
  clear hB'''''''''''''''''''
  have k1''''''''''''''''''' := k1''''''''''''''''''.below hb36 k1''''''''''''''''''.lt
  clear k1''''''''''''''''''
  have k9''''''''''''''' := k9''''''''''''''.below hb36 k9''''''''''''''.lt
  clear k9''''''''''''''
  have k10'''''''''''''' := k10'''''''''''''.below hb36 k10'''''''''''''.lt
  clear k10'''''''''''''
  have k13'''''''''''' := k13'''''''''''.below hb36 k13'''''''''''.lt
  clear k13'''''''''''
  have k17'''''''''' := k17'''''''''.below hb36 k17'''''''''.lt
  clear k17'''''''''
  have k18''''''''' := k18''''''''.below hb36 k18''''''''.lt
  clear k18''''''''
  have ho4''''''''''''''''' := ho4''''''''''''''''.below hb36
  clear ho4''''''''''''''''
  have ho7'''''''''''''''' := ho7'''''''''''''''.below hb36
  clear ho7'''''''''''''''
  have hq26''''' := hq26''''.below hb36
  clear hq26''''
  have hq32'' := hq32'.below hb36
  clear hq32'
  have hi36 := ho36.lt
  try simp only [World.size_alloc] at lo36
  obtain ⟨A36, d36, B36, e36, rfl, rfl⟩ := ho36.slices
  obtain ⟨hc1x0, gc1x0⟩ := k1'''''''''''''''''''.at_ 0 (x := .slice Aa0 x0.g.length da0) rfl
  obtain ⟨hc1x1, gc1x1⟩ := k1'''''''''''''''''''.at_ 1 (x := .slice Ba0 x0.l.length ea0) rfl
  have l1 := k1'''''''''''''''''''.lt
  obtain ⟨hc9x0, gc9x0⟩ := k9'''''''''''''''.at_ 0 (x := .slice A7 (allocH x0).g.length d7) rfl
  obtain ⟨hc9x1, gc9x1⟩ := k9'''''''''''''''.at_ 1 (x := .slice B7 (allocH x0).l.length e7) rfl
  have l9 := k9'''''''''''''''.lt
  obtain ⟨hc10x0, gc10x0⟩ := k10''''''''''''''.at_ 0 (x := .int .i64 (allocR x0).a) rfl
  obtain ⟨hc10x1, gc10x1⟩ := k10''''''''''''''.at_ 1 (x := .int .i64 (allocR x0).b) rfl
  have l10 := k10''''''''''''''.lt
  obtain ⟨hc13x0, gc13x0⟩ := k13''''''''''''.at_ 0 (x := .slice A11 x0.g.length d11) rfl
  obtain ⟨hc13x1, gc13x1⟩ := k13''''''''''''.at_ 1 (x := .slice B11 x0.l.length e11) rfl
  have l13 := k13''''''''''''.lt
  obtain ⟨hc17x0, gc17x0⟩ := k17''''''''''.at_ 0 (x := .slice A15 (allocH x0).g.length d15) rfl
  obtain ⟨hc17x1, gc17x1⟩ := k17''''''''''.at_ 1 (x := .slice B15 (allocH x0).l.length e15) rfl
  have l17 := k17''''''''''.lt
  obtain ⟨hc18x0, gc18x0⟩ := k18'''''''''.at_ 0 (x := .int .i64 (allocR x0).a) rfl
  obtain ⟨hc18x1, gc18x1⟩ := k18'''''''''.at_ 1 (x := .int .i64 (allocR x0).b) rfl
  have l18 := k18'''''''''.lt
  go_wp2_with fail
  refine (impl_AllocObj _ _ x0 _ ho36.rd (by omega)).mono ?_
  rintro e w38 ⟨v39x0, v39x1, bs39, rfl, ho39, lo39, hb39⟩
  clear hc1x0 gc1x0 hc1x1 gc1x1 l1 hc9x0 gc9x0 hc9x1 gc9x1 l9 hc10x0 gc10x0 hc10x1 gc10x1 l10 hc13x0 gc13x0 hc13x1 gc13x1 l13 hc17x0 gc17x0 hc17x1 gc17x1 l17 hc18x0 gc18x0 hc18x1 gc18x1 l18
  have sz40 := hb39.size
  try simp only [World.size_alloc] at sz40
  have hB''''''''''''''''''''' := hB''''''''''''''''''''.trans (hb39.mono hB''''''''''''''''''''.size)
  clear hB''''''''''''''''''''
  have k1'''''''''''''''''''' := k1'''''''''''''''''''.below hb39 k1'''''''''''''''''''.lt
  clear k1'''''''''''''''''''
  have k9'''''''''''''''' := k9'''''''''''''''.below hb39 k9'''''''''''''''.lt
  clear k9'''''''''''''''
  have k10''''''''''''''' := k10''''''''''''''.below hb39 k10''''''''''''''.lt
  clear k10''''''''''''''
  have k13''''''''''''' := k13''''''''''''.below hb39 k13''''''''''''.lt
  clear k13''''''''''''
  have k17''''''''''' := k17''''''''''.below hb39 k17''''''''''.lt
  clear k17''''''''''
  have k18'''''''''' := k18'''''''''.below hb39 k18'''''''''.lt
  clear k18'''''''''
  have ho4'''''''''''''''''' := ho4'''''''''''''''''.below hb39
  clear ho4'''''''''''''''''
  have ho7''''''''''''''''' := ho7''''''''''''''''.below hb39
  clear ho7''''''''''''''''
  have hq26'''''' := hq26'''''.below hb39
  clear hq26'''''
  have hq32''' := hq32''.below hb39
  clear hq32''
  have ho36' := ho36.below hb39
  clear ho36
  have hi39 := ho39.lt
  try simp only [World.size_alloc] at lo39
  obtain ⟨A39, d39, B39, e39, rfl, rfl⟩ := ho39.slices
  obtain ⟨hc1x0, gc1x0⟩ := k1''''''''''''''''''''.at_ 0 (x := .slice Aa0 x0.g.length da0) rfl
  obtain ⟨hc1x1, gc1x1⟩ := k1''''''''''''''''''''.at_ 1 (x := .slice Ba0 x0.l.length ea0) rfl
  have l1 := k1''''''''''''''''''''.lt
  obtain ⟨hc9x0, gc9x0⟩ := k9''''''''''''''''.at_ 0 (x := .slice A7 (allocH x0).g.length d7) rfl
  obtain ⟨hc9x1, gc9x1⟩ := k9''''''''''''''''.at_ 1 (x := .slice B7 (allocH x0).l.length e7) rfl
  have l9 := k9''''''''''''''''.lt
  obtain ⟨hc10x0, gc10x0⟩ := k10'''''''''''''''.at_ 0 (x := .int .i64 (allocR x0).a) rfl
  obtain ⟨hc10x1, gc10x1⟩ := k10'''''''''''''''.at_ 1 (x := .int .i64 (allocR x0).b) rfl
  have l10 := k10'''''''''''''''.lt
  obtain ⟨hc13x0, gc13x0⟩ := k13'''''''''''''.at_ 0 (x := .slice A11 x0.g.length d11) rfl
  obtain ⟨hc13x1, gc13x1⟩ := k13'''''''''''''.at_ 1 (x := .slice B11 x0.l.length e11) rfl
  have l13 := k13'''''''''''''.lt
  obtain ⟨hc17x0, gc17x0⟩ := k17'''''''''''.at_ 0 (x := .slice A15 (allocH x0).g.length d15) rfl
  obtain ⟨hc17x1, gc17x1⟩ := k17'''''''''''.at_ 1 (x := .slice B15 (allocH x0).l.length e15) rfl
  have l17 := k17'''''''''''.lt
  obtain ⟨hc18x0, gc18x0⟩ := k18''''''''''.at_ 0 (x := .int .i64 (allocR x0).a) rfl
  obtain ⟨hc18x1, gc18x1⟩ := k18''''''''''.at_ 1 (x := .int .i64 (allocR x0).b) rfl
  have l18 := k18''''''''''.lt
  go_wp2_with fail
  clear hc1x0 gc1x0 hc1x1 gc1x1 l1 hc9x0 gc9x0 hc9x1 gc9x1 l9 hc10x0 gc10x0 hc10x1 gc10x1 l10 hc13x0 gc13x0 hc13x1 gc13x1 l13 hc17x0 gc17x0 hc17x1 gc17x1 l17 hc18x0 gc18x0 hc18x1 gc18x1 l18
  have k1''''''''''''''''''''' := k1''''''''''''''''''''.alloc (.cells #[.slice A39 (allocH x0).g.length d39, .slice B39 (allocH x0).l.length e39] 28)
  clear k1''''''''''''''''''''
  have k9''''''''''''''''' := k9''''''''''''''''.alloc (.cells #[.slice A39 (allocH x0).g.length d39, .slice B39 (allocH x0).l.length e39] 28)
  clear k9''''''''''''''''
  have k10'''''''''''''''' := k10'''''''''''''''.alloc (.cells #[.slice A39 (allocH x0).g.length d39, .slice B39 (allocH x0).l.length e39] 28)
  clear k10'''''''''''''''
  have k13'''''''''''''' := k13'''''''''''''.alloc (.cells #[.slice A39 (allocH x0).g.length d39, .slice B39 (allocH x0).l.length e39] 28)
  clear k13'''''''''''''
  have k17'''''''''''' := k17'''''''''''.alloc (.cells #[.slice A39 (allocH x0).g.length d39, .slice B39 (allocH x0).l.length e39] 28)
  clear k17'''''''''''
  have k18''''''''''' := k18''''''''''.alloc (.cells #[.slice A39 (allocH x0).g.length d39, .slice B39 (allocH x0).l.length e39] 28)
  clear k18''''''''''
  have ho4''''''''''''''''''' := ho4''''''''''''''''''.below ((Below.refl _ _).alloc (Nat.le_refl _) (.cells #[.slice A39 (allocH x0).g.length d39, .slice B39 (allocH x0).l.length e39] 28))
  clear ho4''''''''''''''''''
  have ho7'''''''''''''''''' := ho7'''''''''''''''''.below ((Below.refl _ _).alloc (Nat.le_refl _) (.cells #[.slice A39 (allocH x0).g.length d39, .slice B39 (allocH x0).l.length e39] 28))
  clear ho7'''''''''''''''''
  have hq26''''''' := hq26''''''.below ((Below.refl _ _).alloc (Nat.le_refl _) (.cells #[.slice A39 (allocH x0).g.length d39, .slice B39 (allocH x0).l.length e39] 28))
  clear hq26''''''
  have hq32'''' := hq32'''.below ((Below.refl _ _).alloc (Nat.le_refl _) (.cells #[.slice A39 (allocH x0).g.length d39, .slice B39 (allocH x0).l.length e39] 28))
  clear hq32'''
  have ho36'' := ho36'.below ((Below.refl _ _).alloc (Nat.le_refl _) (.cells #[.slice A39 (allocH x0).g.length d39, .slice B39 (allocH x0).l.length e39] 28))
  clear ho36'
  have ho39' := ho39.below ((Below.refl _ _).alloc (Nat.le_refl _) (.cells #[.slice A39 (allocH x0).g.length d39, .slice B39 (allocH x0).l.length e39] 28))
  clear ho39
  have hB'''''''''''''''''''''' := hB'''''''''''''''''''''.alloc hB'''''''''''''''''''''.size (.cells #[.slice A39 (allocH x0).g.length d39, .slice B39 (allocH x0).l.length e39] 28)
  clear hB'''''''''''''''''''''
  have k41 := Bk.new w38 #[.slice A39 (allocH x0).g.length d39, .slice B39 (allocH x0).l.length e39] 28
  have k1'''''''''''''''''''''' := k1'''''''''''''''''''''.alloc (.cells #[.int .i64 (allocR x0).a, .int .i64 (allocR x0).b] 37)
  clear k1'''''''''''''''''''''
  have k9'''''''''''''''''' := k9'''''''''''''''''.alloc (.cells #[.int .i64 (allocR x0).a, .int .i64 (allocR x0).b] 37)
  clear k9'''''''''''''''''
  have k10''''''''''''''''' := k10''''''''''''''''.alloc (.cells #[.int .i64 (allocR x0).a, .int .i64 (allocR x0).b] 37)
  clear k10''''''''''''''''
  have k13''''''''''''''' := k13''''''''''''''.alloc (.cells #[.int .i64 (allocR x0).a, .int .i64 (allocR x0).b] 37)
  clear k13''''''''''''''
  have k17''''''''''''' := k17''''''''''''.alloc (.cells #[.int .i64 (allocR x0).a, .int .i64 (allocR x0).b] 37)
  clear k17''''''''''''
  have k18'''''''''''' := k18'''''''''''.alloc (.cells #[.int .i64 (allocR x0).a, .int .i64 (allocR x0).b] 37)
  clear k18'''''''''''
  have k41' := k41.alloc (.cells #[.int .i64 (allocR x0).a, .int .i64 (allocR x0).b] 37)
  clear k41
  have ho4'''''''''''''''''''' := ho4'''''''''''''''''''.below ((Below.refl _ _).alloc (Nat.le_refl _) (.cells #[.int .i64 (allocR x0).a, .int .i64 (allocR x0).b] 37))
  clear ho4'''''''''''''''''''
  have ho7''''''''''''''''''' := ho7''''''''''''''''''.below ((Below.refl _ _).alloc (Nat.le_refl _) (.cells #[.int .i64 (allocR x0).a, .int .i64 (allocR x0).b] 37))
  clear ho7''''''''''''''''''
  have hq26'''''''' := hq26'''''''.below ((Below.refl _ _).alloc (Nat.le_refl _) (.cells #[.int .i64 (allocR x0).a, .int .i64 (allocR x0).b] 37))
  clear hq26'''''''
  have hq32''''' := hq32''''.below ((Below.refl _ _).alloc (Nat.le_refl _) (.cells #[.int .i64 (allocR x0).a, .int .i64 (allocR x0).b] 37))
  clear hq32''''
  have ho36''' := ho36''.below ((Below.refl _ _).alloc (Nat.le_refl _) (.cells #[.int .i64 (allocR x0).a, .int .i64 (allocR x0).b] 37))
  clear ho36''
  have ho39'' := ho39'.below ((Below.refl _ _).alloc (Nat.le_refl _) (.cells #[.int .i64 (allocR x0).a, .int .i64 (allocR x0).b] 37))
  clear ho39'
  have hB''''''''''''''''''''''' := hB''''''''''''''''''''''.alloc hB''''''''''''''''''''''.size (.cells #[.int .i64 (allocR x0).a, .int .i64 (allocR x0).b] 37)
  clear hB''''''''''''''''''''''
  have k42 := Bk.new (w38.alloc (.cells #[.slice A39 (allocH x0).g.length d39, .slice B39 (allocH x0).l.length e39] 28)) #[.int .i64 (allocR x0).a, .int .i64 (allocR x0).b] 37
  simp only [World.size_alloc] at k42
  refine (eqHeap _ _ _ _ ((allocH x0)) ((allocH x0)) _ ho39''.rd ho7'''''''''''''''''''.rd).mono ?_
  rintro e w43 ⟨rfl, hb43⟩
  rw [decide_eq_true rfl]
  have sz44 := hb43.size
  try simp only [World.size_alloc] at sz44
  have hB'''''''''''''''''''''''' := hB'''''''''''''''''''''''.trans (hb43.mono hB'''''''''''''''''''''''.size)
  clear hB'''''''''''''''''''''''
  have k1''''''''''''''''''''''' := k1''''''''''''''''''''''.below hb43 k1''''''''''''''''''''''.lt
  clear k1''''''''''''''''''''''
  have k9''''''''''''''''''' := k9''''''''''''''''''.below hb43 k9''''''''''''''''''.lt
  clear k9''''''''''''''''''
  have k10'''''''''''''''''' := k10'''''''''''''''''.below hb43 k10'''''''''''''''''.lt
  clear k10'''''''''''''''''
  have k13'''''''''''''''' := k13'''''''''''''''.below hb43 k13'''''''''''''''.lt
  clear k13'''''''''''''''
  have k17'''''''''''''' := k17'''''''''''''.below hb43 k17'''''''''''''.lt
  clear k17'''''''''''''
  have k18''''''''''''' := k18''''''''''''.below hb43 k18''''''''''''.lt
  clear k18''''''''''''
  have k41'' := k41'.below hb43 k41'.lt
  clear k41'
  have k42' := k42.below hb43 k42.lt
  clear k42
  have ho4''''''''''''''''''''' := ho4''''''''''''''''''''.below hb43
  clear ho4''''''''''''''''''''
  have ho7'''''''''''''''''''' := ho7'''''''''''''''''''.below hb43
  clear ho7'''''''''''''''''''
  have hq26''''''''' := hq26''''''''.below hb43
  clear hq26''''''''
  have hq32'''''' := hq32'''''.below hb43
  clear hq32'''''
  have ho36'''' := ho36'''.below hb43
  clear ho36'''
  have ho39''' := ho39''.below hb43
  clear ho39''
  obtain ⟨hc1x0, gc1x0⟩ := k1'''''''''''''''''''''''.at_ 0 (x := .slice Aa0 x0.g.length da0) rfl
  obtain ⟨hc1x1, gc1x1⟩ := k1'''''''''''''''''''''''.at_ 1 (x := .slice Ba0 x0.l.length ea0) rfl
  have l1 := k1'''''''''''''''''''''''.lt
  obtain ⟨hc9x0, gc9x0⟩ := k9'''''''''''''''''''.at_ 0 (x := .slice A7 (allocH x0).g.length d7) rfl
  obtain ⟨hc9x1, gc9x1⟩ := k9'''''''''''''''''''.at_ 1 (x := .slice B7 (allocH x0).l.length e7) rfl
  have l9 := k9'''''''''''''''''''.lt
  obtain ⟨hc10x0, gc10x0⟩ := k10''''''''''''''''''.at_ 0 (x := .int .i64 (allocR x0).a) rfl
  obtain ⟨hc10x1, gc10x1⟩ := k10''''''''''''''''''.at_ 1 (x := .int .i64 (allocR x0).b) rfl
  have l10 := k10''''''''''''''''''.lt
  obtain ⟨hc13x0, gc13x0⟩ := k13''''''''''''''''.at_ 0 (x := .slice A11 x0.g.length d11) rfl
  obtain ⟨hc13x1, gc13x1⟩ := k13''''''''''''''''.at_ 1 (x := .slice B11 x0.l.length e11) rfl
  have l13 := k13''''''''''''''''.lt
  obtain ⟨hc17x0, gc17x0⟩ := k17''''''''''''''.at_ 0 (x := .slice A15 (allocH x0).g.length d15) rfl
  obtain ⟨hc17x1, gc17x1⟩ := k17''''''''''''''.at_ 1 (x := .slice B15 (allocH x0).l.length e15) rfl
  have l17 := k17''''''''''''''.lt
  obtain ⟨hc18x0, gc18x0⟩ := k18'''''''''''''.at_ 0 (x := .int .i64 (allocR x0).a) rfl
  obtain ⟨hc18x1, gc18x1⟩ := k18'''''''''''''.at_ 1 (x := .int .i64 (allocR x0).b) rfl
  have l18 := k18'''''''''''''.lt
  obtain ⟨hc41x0, gc41x0⟩ := k41''.at_ 0 (x := .slice A39 (allocH x0).g.length d39) rfl
  obtain ⟨hc41x1, gc41x1⟩ := k41''.at_ 1 (x := .slice B39 (allocH x0).l.length e39) rfl
  have l41 := k41''.lt
  obtain ⟨hc42x0, gc42x0⟩ := k42'.at_ 0 (x := .int .i64 (allocR x0).a) rfl
  obtain ⟨hc42x1, gc42x1⟩ := k42'.at_ 1 (x := .int .i64 (allocR x0).b) rfl
  have l42 := k42'.lt
  go_wp2_with fail
  refine (eqRef ((allocR x0)) ((allocR x0)) _).mono ?_
  rintro e w45 ⟨rfl, hb45⟩
  rw [decide_eq_true rfl]
  clear hc1x0 gc1x0 hc1x1 gc1x1 l1 hc9x0 gc9x0 hc9x1 gc9x1 l9 hc10x0 gc10x0 hc10x1 gc10x1 l10 hc13x0 gc13x0 hc13x1 gc13x1 l13 hc17x0 gc17x0 hc17x1 gc17x1 l17 hc18x0 gc18x0 hc18x1 gc18x1 l18 hc41x0 gc41x0 hc41x1 gc41x1 l41 hc42x0 gc42x0 hc42x1 gc42x1 l42
  have sz46 := hb45.size
  try simp only [World.size_alloc] at sz46
  have hB''''''''''''''''''''''''' := hB''''''''''''''''''''''''.trans (hb45.mono hB''''''''''''''''''''''''.size)
  clear hB''''''''''''''''''''''''
  have k1'''''''''''''''''''''''' := k1'''''''''''''''''''''''.below hb45 k1'''''''''''''''''''''''.lt
  clear k1'''''''''''''''''''''''
  have k9'''''''''''''''''''' := k9'''''''''''''''''''.below hb45 k9'''''''''''''''''''.lt
  clear k9'''''''''''''''''''
  have k10''''''''''''''''''' := k10''''''''''''''''''.below hb45 k10''''''''''''''''''.lt
  clear k10''''''''''''''''''
  have k13''''''''''''''''' := k13''''''''''''''''.below hb45 k13''''''''''''''''.lt
  clear k13''''''''''''''''
  have k17''''''''''''''' := k17''''''''''''''.below hb45 k17''''''''''''''.lt
  clear k17''''''''''''''
  have k18'''''''''''''' := k18'''''''''''''.below hb45 k18'''''''''''''.lt
  clear k18'''''''''''''
  have k41''' := k41''.below hb45 k41''.lt
  clear k41''
  have k42'' := k42'.below hb45 k42'.lt
  clear k42'
  have ho4'''''''''''''''''''''' := ho4'''''''''''''''''''''.below hb45
  clear ho4'''''''''''''''''''''
  have ho7''''''''''''''''''''' := ho7''''''''''''''''''''.below hb45
  clear ho7''''''''''''''''''''
  have hq26'''''''''' := hq26'''''''''.below hb45
  clear hq26'''''''''
  have hq32''''''' := hq32''''''.below hb45
  clear hq32''''''
  have ho36''''' := ho36''''.below hb45
  clear ho36''''
  have ho39'''' := ho39'''.below hb45
  clear ho39'''
  obtain ⟨hc1x0, gc1x0⟩ := k1''''''''''''''''''''''''.at_ 0 (x := .slice Aa0 x0.g.length da0) rfl
  obtain ⟨hc1x1, gc1x1⟩ := k1''''''''''''''''''''''''.at_ 1 (x := .slice Ba0 x0.l.length ea0) rfl
  have l1 := k1''''''''''''''''''''''''.lt
  obtain ⟨hc9x0, gc9x0⟩ := k9''''''''''''''''''''.at_ 0 (x := .slice A7 (allocH x0).g.length d7) rfl
  obtain ⟨hc9x1, gc9x1⟩ := k9''''''''''''''''''''.at_ 1 (x := .slice B7 (allocH x0).l.length e7) rfl
  have l9 := k9''''''''''''''''''''.lt
  obtain ⟨hc10x0, gc10x0⟩ := k10'''''''''''''''''''.at_ 0 (x := .int .i64 (allocR x0).a) rfl
  obtain ⟨hc10x1, gc10x1⟩ := k10'''''''''''''''''''.at_ 1 (x := .int .i64 (allocR x0).b) rfl
  have l10 := k10'''''''''''''''''''.lt
  obtain ⟨hc13x0, gc13x0⟩ := k13'''''''''''''''''.at_ 0 (x := .slice A11 x0.g.length d11) rfl
  obtain ⟨hc13x1, gc13x1⟩ := k13'''''''''''''''''.at_ 1 (x := .slice B11 x0.l.length e11) rfl
  have l13 := k13'''''''''''''''''.lt
  obtain ⟨hc17x0, gc17x0⟩ := k17'''''''''''''''.at_ 0 (x := .slice A15 (allocH x0).g.length d15) rfl
  obtain ⟨hc17x1, gc17x1⟩ := k17'''''''''''''''.at_ 1 (x := .slice B15 (allocH x0).l.length e15) rfl
  have l17 := k17'''''''''''''''.lt
  obtain ⟨hc18x0, gc18x0⟩ := k18''''''''''''''.at_ 0 (x := .int .i64 (allocR x0).a) rfl
  obtain ⟨hc18x1, gc18x1⟩ := k18''''''''''''''.at_ 1 (x := .int .i64 (allocR x0).b) rfl
  have l18 := k18''''''''''''''.lt
  obtain ⟨hc41x0, gc41x0⟩ := k41'''.at_ 0 (x := .slice A39 (allocH x0).g.length d39) rfl
  obtain ⟨hc41x1, gc41x1⟩ := k41'''.at_ 1 (x := .slice B39 (allocH x0).l.length e39) rfl
  have l41 := k41'''.lt
  obtain ⟨hc42x0, gc42x0⟩ := k42''.at_ 0 (x := .int .i64 (allocR x0).a) rfl
  obtain ⟨hc42x1, gc42x1⟩ := k42''.at_ 1 (x := .int .i64 (allocR x0).b) rfl
  have l42 := k42''.lt
  go_wp2_with fail
  refine (heldHeap _ _ (allocH x0) (1) _ hq32'''''''.rd (by omega) (by omega) (by omega)).mono ?_
  rintro e w47 ⟨rfl, hb47⟩
  clear hc1x0 gc1x0 hc1x1 gc1x1 l1 hc9x0 gc9x0 hc9x1 gc9x1 l9 hc10x0 gc10x0 hc10x1 gc10x1 l10 hc13x0 gc13x0 hc13x1 gc13x1 l13 hc17x0 gc17x0 hc17x1 gc17x1 l17 hc18x0 gc18x0 hc18x1 gc18x1 l18 hc41x0 gc41x0 hc41x1 gc41x1 l41 hc42x0 gc42x0 hc42x1 gc42x1 l42
  have sz48 := hb47.size
  try simp only [World.size_alloc] at sz48
  have hB'''''''''''''''''''''''''' := hB'''''''''''''''''''''''''.trans (hb47.mono hB'''''''''''''''''''''''''.size)
  clear hB'''''''''''''''''''''''''
  have k1''''''''''''''''''''''''' := k1''''''''''''''''''''''''.below hb47 k1''''''''''''''''''''''''.lt
  clear k1''''''''''''''''''''''''
  have k9''''''''''''''''''''' := k9''''''''''''''''''''.below hb47 k9''''''''''''''''''''.lt
  clear k9''''''''''''''''''''
  have k10'''''''''''''''''''' := k10'''''''''''''''''''.below hb47 k10'''''''''''''''''''.lt
  clear k10'''''''''''''''''''
  have k13'''''''''''''''''' := k13'''''''''''''''''.below hb47 k13'''''''''''''''''.lt
  clear k13'''''''''''''''''
  have k17'''''''''''''''' := k17'''''''''''''''.below hb47 k17'''''''''''''''.lt
  clear k17'''''''''''''''
  have k18''''''''''''''' := k18''''''''''''''.below hb47 k18''''''''''''''.lt
  clear k18''''''''''''''
  have k41'''' := k41'''.below hb47 k41'''.lt
  clear k41'''
  have k42''' := k42''.below hb47 k42''.lt
  clear k42''
  have ho4''''''''''''''''''''''' := ho4''''''''''''''''''''''.below hb47
  clear ho4''''''''''''''''''''''
  have ho7'''''''''''''''''''''' := ho7'''''''''''''''''''''.below hb47
  clear ho7'''''''''''''''''''''
  have hq26''''''''''' := hq26''''''''''.below hb47
  clear hq26''''''''''
  have hq32'''''''' := hq32'''''''.below hb47
  clear hq32'''''''
  have ho36'''''' := ho36'''''.below hb47
  clear ho36'''''
  have ho39''''' := ho39''''.below hb47
  clear ho39''''
  obtain ⟨hc1x0, gc1x0⟩ := k1'''''''''''''''''''''''''.at_ 0 (x := .slice Aa0 x0.g.length da0) rfl
  obtain ⟨hc1x1, gc1x1⟩ := k1'''''''''''''''''''''''''.at_ 1 (x := .slice Ba0 x0.l.length ea0) rfl
  have l1 := k1'''''''''''''''''''''''''.lt
  obtain ⟨hc9x0, gc9x0⟩ := k9'''''''''''''''''''''.at_ 0 (x := .slice A7 (allocH x0).g.length d7) rfl
  obtain ⟨hc9x1, gc9x1⟩ := k9'''''''''''''''''''''.at_ 1 (x := .slice B7 (allocH x0).l.length e7) rfl
  have l9 := k9'''''''''''''''''''''.lt
  obtain ⟨hc10x0, gc10x0⟩ := k10''''''''''''''''''''.at_ 0 (x := .int .i64 (allocR x0).a) rfl
  obtain ⟨hc10x1, gc10x1⟩ := k10''''''''''''''''''''.at_ 1 (x := .int .i64 (allocR x0).b) rfl
  have l10 := k10''''''''''''''''''''.lt
  obtain ⟨hc13x0, gc13x0⟩ := k13''''''''''''''''''.at_ 0 (x := .slice A11 x0.g.length d11) rfl
  obtain ⟨hc13x1, gc13x1⟩ := k13''''''''''''''''''.at_ 1 (x := .slice B11 x0.l.length e11) rfl
  have l13 := k13''''''''''''''''''.lt
  obtain ⟨hc17x0, gc17x0⟩ := k17''''''''''''''''.at_ 0 (x := .slice A15 (allocH x0).g.length d15) rfl
  obtain ⟨hc17x1, gc17x1⟩ := k17''''''''''''''''.at_ 1 (x := .slice B15 (allocH x0).l.length e15) rfl
  have l17 := k17''''''''''''''''.lt
  obtain ⟨hc18x0, gc18x0⟩ := k18'''''''''''''''.at_ 0 (x := .int .i64 (allocR x0).a) rfl
  obtain ⟨hc18x1, gc18x1⟩ := k18'''''''''''''''.at_ 1 (x := .int .i64 (allocR x0).b) rfl
  have l18 := k18'''''''''''''''.lt
  obtain ⟨hc41x0, gc41x0⟩ := k41''''.at_ 0 (x := .slice A39 (allocH x0).g.length d39) rfl
  obtain ⟨hc41x1, gc41x1⟩ := k41''''.at_ 1 (x := .slice B39 (allocH x0).l.length e39) rfl
  have l41 := k41''''.lt
  obtain ⟨hc42x0, gc42x0⟩ := k42'''.at_ 0 (x := .int .i64 (allocR x0).a) rfl
  obtain ⟨hc42x1, gc42x1⟩ := k42'''.at_ 1 (x := .int .i64 (allocR x0).b) rfl
  have l42 := k42'''.lt
  go_wp2_with fail
  go_ret
  exact ⟨rfl, hB''''''''''''''''''''''''''⟩
set_option maxRecDepth 100000 in
theorem lift_AllocObj (os : Os) (started : os.Started) (H : Type) (enc : TypeId × Value → H) :
    ReturnsInHanded {} Try.checked os 5 .any (Rows.fnExactAllocObjSpec.pre6 enc Try.prog Try.f5 Rows.fnExactAllocObjRow.domain false) (Rows.fnExactAllocObjSpec.post enc Try.prog Try.f5 false true false false) := by
  refine returnsInHanded_of_change (C := Try.checked) (by kernel_rfl) started (by kernel_rfl) Try.func5
    (ChangeSpec.witness6 (enc := enc) (C := Try.checked) false ⟨#[], #[.agg #[.slice none 0 0, .slice none 0 0]], []⟩ 8 (by kernel_rfl) (by kernel_rfl) (by kernel_rfl) (by kernel_rfl)) ?_
  intro W base args ds gs before hval0 hW hcnd _
  have hval : ∀ (j : Nat) t v, Try.f5.params[j]? = some t → args[j]? = some v → Value.okWide Try.prog W .any base t v := hval0
  have hW' := hW
  obtain ⟨p, q, hA0, hV, rfl, hfz, hnd⟩ := hW
  have hA : DataW.TrodAll enc Try.prog W 0 (fun _ => true) true Try.f5.params.toList args.toList ds p := hA0
  rw [Try.params5] at hA hval
  obtain ⟨v0, vs0, d0, ds0, p0, q0, hargs, rfl, rfl, h0, r0⟩ := trodAll_cons hA
  obtain ⟨rfl, rfl, rfl⟩ := trodAll_nil r0
  obtain rfl : args = #[v0] := by cases args; simp_all
  obtain ⟨rfl, rfl⟩ := trodVars_none hV
  obtain ⟨c0, u0, x0, rfl, hR0, hI0⟩ := read_heap Try.underlying25 ⟨rfl, rfl⟩ (by decide +kernel) ⟨by kernel_rfl, by kernel_rfl⟩ Try.underlying22 Try.underlying3 (by kernel_rfl) Try.underlying23 Try.underlying4 (by kernel_rfl) (hval 0 _ v0 rfl rfl) h0
  refine (walk_AllocObj _ _ x0 W hR0).mono fun e W' ⟨he, hb⟩ => ?_
  subst he
  exact ⟨_, rfl, post_law (by kernel_rfl) rfl rfl (by kernel_rfl) Try.underlying4 (of_decide_eq_true (by kernel_rfl)) hW' hb⟩
theorem FnExactAllocObj_holds : Rows.FnExactAllocObjSaid :=
  OpenClaim.holds_of_wide 5 Try.f5 rfl rfl rfl rfl rfl rfl rfl ⟨rfl, rfl, rfl, rfl, rfl⟩ rfl rfl rfl rfl rfl (by kernel_rfl) Try.func5 (by kernel_rfl)
    (of_decide_eq_true (by kernel_rfl)) (by unfold Func.isWrapper; first | (rw [if_pos (by decide +kernel)]; kernel_rfl) | (rw [if_neg (by decide +kernel)]; exact ⟨rfl, rfl⟩))
    (fun os started H enc _ => lift_AllocObj os started H enc)
#print axioms FnExactAllocObj_holds
end Go.Proofs.Ytpenneklpolhgaa
