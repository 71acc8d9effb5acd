/- FnExactPlayCount answers true at every input: PlayCount answers as its model does, leaves its arguments alone and owns its answer. Conditions: none. -/
import Derived.Test.YtiamkgkhamnaeaaLaw
import Derived.Test.YtiamkgkhamnaeaaKL
import Derived.Test.YtiamkgkhamnaeaaMN
import Derived.Test.YtiamkgkhamnaeaaNC8
import Derived.Deep.RegionHeld3
namespace Go.Proofs.Ytiamkgkhamnaeaa
set_option maxRecDepth 20000
set_option linter.unusedSimpArgs false
set_option linter.unusedVariables false
open Go.ChangeShapes Go.WideShapes Go.ChangeAt Go.RowKit
set_option linter.unusedVariables false
set_option maxHeartbeats 4000000 in
theorem walk_PlayCount (v0 : Value) (xs0 : List O3) (w : World) (hA0 : RdA w v0 3 xs0.length (flc3 xs0)) :
    Calls Try.prog 4 #[v0] w fun e w' => e = .returned (.bool true) ∧ Below w.heap.size w w' := by
  obtain ⟨Aa0, da0, rfl, -, -, -, -⟩ := id hA0
  have HAaOps := Lib.hid hA0
  clear hA0
  have hqp := play_sizes xs0
  have hB := Below.refl w.heap.size w
  go_enter Try.func4, Try.ntmps4
  go_wp2_with fail
  refine (toB (szOpS _ _ _ (1048576) _ (HAaOps.out.below hB) (by omega) (by omega))).mono ?_
  rintro e w1 ⟨rfl, hb1⟩
  have sz2 := hb1.size
  try simp only [World.size_alloc] at sz2
  have hB' := hB.trans (hb1.mono hB.size)
  clear hB
  by_cases hn1 : (1048576 : Int) - xs0.length < 0
  · rw [show szF xs0.length (1048576) = -1 by unfold szF; rw [if_pos hn1]]
    go_wp2_with fail
    go_ret
    exact ⟨rfl, hB'⟩
  rw [show szF xs0.length (1048576) = 1048576 - xs0.length by unfold szF; rw [if_neg hn1]]
  go_wp2_with fail
  refine (toOpS _ xs0 _ (HAaOps.out.below hB') (by omega)).mono ?_
  rintro e w3 ⟨v3x0, bs3, rfl, ho3, lo3, hb3⟩
  have sz4 := hb3.size
  try simp only [World.size_alloc] at sz4
  have hB'' := hB'.trans (hb3.mono hB'.size)
  clear hB'
  have hi3 := ho3.lt
  try simp only [World.size_alloc] at lo3
  obtain ⟨A3, d3, rfl, -, -⟩ := ho3.slice
  go_wp2_with fail
  refine (spec_PlayCount _ xs0 _ ho3.rd).mono ?_
  rintro e w7 ⟨v6x0, v6x1, v6x2, v6x3, bs6, v7x0, bs7, rfl, ho6, ho7, lo6, lo7, hdis5, hb5⟩
  have sz8 := hb5.size
  try simp only [World.size_alloc] at sz8
  have hB''' := hB''.trans (hb5.mono hB''.size)
  clear hB''
  have ho3' := ho3.below hb5
  clear ho3
  have hi6 := ho6.lt
  try simp only [World.size_alloc] at lo6
  obtain ⟨A6, d6, B6, e6, C6, f6, D6, g6, rfl, rfl, rfl, rfl⟩ := ho6.slices
  have hi7 := ho7.lt
  try simp only [World.size_alloc] at lo7
  obtain ⟨A7, d7, rfl, -, -⟩ := ho7.slice
  go_wp2_with fail
  have ho3'' := ho3'.below ((Below.refl _ _).alloc (Nat.le_refl _) (.cells #[.slice A6 (playB xs0).l.length d6, .slice B6 (playB xs0).h.length e6, .slice C6 (playB xs0).w.length f6, .slice D6 (playB xs0).f.length g6, .int .i64 (playB xs0).n] 31))
  clear ho3'
  have ho6' := ho6.below ((Below.refl _ _).alloc (Nat.le_refl _) (.cells #[.slice A6 (playB xs0).l.length d6, .slice B6 (playB xs0).h.length e6, .slice C6 (playB xs0).w.length f6, .slice D6 (playB xs0).f.length g6, .int .i64 (playB xs0).n] 31))
  clear ho6
  have ho7' := ho7.below ((Below.refl _ _).alloc (Nat.le_refl _) (.cells #[.slice A6 (playB xs0).l.length d6, .slice B6 (playB xs0).h.length e6, .slice C6 (playB xs0).w.length f6, .slice D6 (playB xs0).f.length g6, .int .i64 (playB xs0).n] 31))
  clear ho7
  have hB'''' := hB'''.alloc hB'''.size (.cells #[.slice A6 (playB xs0).l.length d6, .slice B6 (playB xs0).h.length e6, .slice C6 (playB xs0).w.length f6, .slice D6 (playB xs0).f.length g6, .int .i64 (playB xs0).n] 31)
  clear hB'''
  have k9 := Bk.new w7 #[.slice A6 (playB xs0).l.length d6, .slice B6 (playB xs0).h.length e6, .slice C6 (playB xs0).w.length f6, .slice D6 (playB xs0).f.length g6, .int .i64 (playB xs0).n] 31
  refine (toOpS _ xs0 _ (HAaOps.out.below hB'''') (by omega)).mono ?_
  rintro e w10 ⟨v10x0, bs10, rfl, ho10, lo10, hb10⟩
  have sz11 := hb10.size
  try simp only [World.size_alloc] at sz11
  have hB''''' := hB''''.trans (hb10.mono hB''''.size)
  clear hB''''
  have k9' := k9.below hb10 k9.lt
  clear k9
  have ho3''' := ho3''.below hb10
  clear ho3''
  have ho6'' := ho6'.below hb10
  clear ho6'
  have ho7'' := ho7'.below hb10
  clear ho7'
  have hi10 := ho10.lt
  try simp only [World.size_alloc] at lo10
  obtain ⟨A10, d10, rfl, -, -⟩ := ho10.slice
  obtain ⟨hc9x0, gc9x0⟩ := k9'.at_ 0 (x := .slice A6 (playB xs0).l.length d6) rfl
  obtain ⟨hc9x1, gc9x1⟩ := k9'.at_ 1 (x := .slice B6 (playB xs0).h.length e6) rfl
  obtain ⟨hc9x2, gc9x2⟩ := k9'.at_ 2 (x := .slice C6 (playB xs0).w.length f6) rfl
  obtain ⟨hc9x3, gc9x3⟩ := k9'.at_ 3 (x := .slice D6 (playB xs0).f.length g6) rfl
  obtain ⟨hc9x4, gc9x4⟩ := k9'.at_ 4 (x := .int .i64 (playB xs0).n) rfl
  have l9 := k9'.lt
  go_wp2_with fail
  refine (impl_PlayCount _ xs0 _ ho10.rd).mono ?_
  rintro e w14 ⟨v13x0, v13x1, v13x2, v13x3, bs13, v14x0, bs14, rfl, ho13, ho14, lo13, lo14, hdis12, hb12⟩
  clear hc9x0 gc9x0 hc9x1 gc9x1 hc9x2 gc9x2 hc9x3 gc9x3 hc9x4 gc9x4 l9
  have sz15 := hb12.size
  try simp only [World.size_alloc] at sz15
  have hB'''''' := hB'''''.trans (hb12.mono hB'''''.size)
  clear hB'''''
  have k9'' := k9'.below hb12 k9'.lt
  clear k9'
  have ho3'''' := ho3'''.below hb12
  clear ho3'''
  have ho6''' := ho6''.below hb12
  clear ho6''
  have ho7''' := ho7''.below hb12
  clear ho7''
  have ho10' := ho10.below hb12
  clear ho10
  have hi13 := ho13.lt
  try simp only [World.size_alloc] at lo13
  obtain ⟨A13, d13, B13, e13, C13, f13, D13, g13, rfl, rfl, rfl, rfl⟩ := ho13.slices
  have hi14 := ho14.lt
  try simp only [World.size_alloc] at lo14
  obtain ⟨A14, d14, rfl, -, -⟩ := ho14.slice
  obtain ⟨hc9x0, gc9x0⟩ := k9''.at_ 0 (x := .slice A6 (playB xs0).l.length d6) rfl
  obtain ⟨hc9x1, gc9x1⟩ := k9''.at_ 1 (x := .slice B6 (playB xs0).h.length e6) rfl
  obtain ⟨hc9x2, gc9x2⟩ := k9''.at_ 2 (x := .slice C6 (playB xs0).w.length f6) rfl
  obtain ⟨hc9x3, gc9x3⟩ := k9''.at_ 3 (x := .slice D6 (playB xs0).f.length g6) rfl
  obtain ⟨hc9x4, gc9x4⟩ := k9''.at_ 4 (x := .int .i64 (playB xs0).n) rfl
  have l9 := k9''.lt
  go_wp2_with fail
  clear hc9x0 gc9x0 hc9x1 gc9x1 hc9x2 gc9x2 hc9x3 gc9x3 hc9x4 gc9x4 l9
  have k9''' := k9''.alloc (.cells #[.slice A13 (playB xs0).l.length d13, .slice B13 (playB xs0).h.length e13, .slice C13 (playB xs0).w.length f13, .slice D13 (playB xs0).f.length g13, .int .i64 (playB xs0).n] 31)
  clear k9''
  have ho3''''' := ho3''''.below ((Below.refl _ _).alloc (Nat.le_refl _) (.cells #[.slice A13 (playB xs0).l.length d13, .slice B13 (playB xs0).h.length e13, .slice C13 (playB xs0).w.length f13, .slice D13 (playB xs0).f.length g13, .int .i64 (playB xs0).n] 31))
  clear ho3''''
  have ho6'''' := ho6'''.below ((Below.refl _ _).alloc (Nat.le_refl _) (.cells #[.slice A13 (playB xs0).l.length d13, .slice B13 (playB xs0).h.length e13, .slice C13 (playB xs0).w.length f13, .slice D13 (playB xs0).f.length g13, .int .i64 (playB xs0).n] 31))
  clear ho6'''
  have ho7'''' := ho7'''.below ((Below.refl _ _).alloc (Nat.le_refl _) (.cells #[.slice A13 (playB xs0).l.length d13, .slice B13 (playB xs0).h.length e13, .slice C13 (playB xs0).w.length f13, .slice D13 (playB xs0).f.length g13, .int .i64 (playB xs0).n] 31))
  clear ho7'''
  have ho10'' := ho10'.below ((Below.refl _ _).alloc (Nat.le_refl _) (.cells #[.slice A13 (playB xs0).l.length d13, .slice B13 (playB xs0).h.length e13, .slice C13 (playB xs0).w.length f13, .slice D13 (playB xs0).f.length g13, .int .i64 (playB xs0).n] 31))
  clear ho10'
  have ho13' := ho13.below ((Below.refl _ _).alloc (Nat.le_refl _) (.cells #[.slice A13 (playB xs0).l.length d13, .slice B13 (playB xs0).h.length e13, .slice C13 (playB xs0).w.length f13, .slice D13 (playB xs0).f.length g13, .int .i64 (playB xs0).n] 31))
  clear ho13
  have ho14' := ho14.below ((Below.refl _ _).alloc (Nat.le_refl _) (.cells #[.slice A13 (playB xs0).l.length d13, .slice B13 (playB xs0).h.length e13, .slice C13 (playB xs0).w.length f13, .slice D13 (playB xs0).f.length g13, .int .i64 (playB xs0).n] 31))
  clear ho14
  have hB''''''' := hB''''''.alloc hB''''''.size (.cells #[.slice A13 (playB xs0).l.length d13, .slice B13 (playB xs0).h.length e13, .slice C13 (playB xs0).w.length f13, .slice D13 (playB xs0).f.length g13, .int .i64 (playB xs0).n] 31)
  clear hB''''''
  have k16 := Bk.new w14 #[.slice A13 (playB xs0).l.length d13, .slice B13 (playB xs0).h.length e13, .slice C13 (playB xs0).w.length f13, .slice D13 (playB xs0).f.length g13, .int .i64 (playB xs0).n] 31
  refine (eqBench _ _ _ _ _ _ _ _ ((playB xs0)) ((playB xs0)) _ ho13'.rd ho6''''.rd).mono ?_
  rintro e w17 ⟨rfl, hb17⟩
  rw [decide_eq_true rfl]
  have sz18 := hb17.size
  try simp only [World.size_alloc] at sz18
  have hB'''''''' := hB'''''''.trans (hb17.mono hB'''''''.size)
  clear hB'''''''
  have k9'''' := k9'''.below hb17 k9'''.lt
  clear k9'''
  have k16' := k16.below hb17 k16.lt
  clear k16
  have ho3'''''' := ho3'''''.below hb17
  clear ho3'''''
  have ho6''''' := ho6''''.below hb17
  clear ho6''''
  have ho7''''' := ho7''''.below hb17
  clear ho7''''
  have ho10''' := ho10''.below hb17
  clear ho10''
  have ho13'' := ho13'.below hb17
  clear ho13'
  have ho14'' := ho14'.below hb17
  clear ho14'
  obtain ⟨hc9x0, gc9x0⟩ := k9''''.at_ 0 (x := .slice A6 (playB xs0).l.length d6) rfl
  obtain ⟨hc9x1, gc9x1⟩ := k9''''.at_ 1 (x := .slice B6 (playB xs0).h.length e6) rfl
  obtain ⟨hc9x2, gc9x2⟩ := k9''''.at_ 2 (x := .slice C6 (playB xs0).w.length f6) rfl
  obtain ⟨hc9x3, gc9x3⟩ := k9''''.at_ 3 (x := .slice D6 (playB xs0).f.length g6) rfl
  obtain ⟨hc9x4, gc9x4⟩ := k9''''.at_ 4 (x := .int .i64 (playB xs0).n) rfl
  have l9 := k9''''.lt
  obtain ⟨hc16x0, gc16x0⟩ := k16'.at_ 0 (x := .slice A13 (playB xs0).l.length d13) rfl
  obtain ⟨hc16x1, gc16x1⟩ := k16'.at_ 1 (x := .slice B13 (playB xs0).h.length e13) rfl
  obtain ⟨hc16x2, gc16x2⟩ := k16'.at_ 2 (x := .slice C13 (playB xs0).w.length f13) rfl
  obtain ⟨hc16x3, gc16x3⟩ := k16'.at_ 3 (x := .slice D13 (playB xs0).f.length g13) rfl
  obtain ⟨hc16x4, gc16x4⟩ := k16'.at_ 4 (x := .int .i64 (playB xs0).n) rfl
  have l16 := k16'.lt
  go_wp2_with fail
  refine (eqIntSB _ _ ((playR xs0)) ((playR xs0)) _ ho14''.rd ho7'''''.rd).mono ?_
  rintro e w19 ⟨rfl, hb19⟩
  rw [decide_eq_true rfl]
  clear hc9x0 gc9x0 hc9x1 gc9x1 hc9x2 gc9x2 hc9x3 gc9x3 hc9x4 gc9x4 l9 hc16x0 gc16x0 hc16x1 gc16x1 hc16x2 gc16x2 hc16x3 gc16x3 hc16x4 gc16x4 l16
  have sz20 := hb19.size
  try simp only [World.size_alloc] at sz20
  have hB''''''''' := hB''''''''.trans (hb19.mono hB''''''''.size)
  clear hB''''''''
  have k9''''' := k9''''.below hb19 k9''''.lt
  clear k9''''
  have k16'' := k16'.below hb19 k16'.lt
  clear k16'
  have ho3''''''' := ho3''''''.below hb19
  clear ho3''''''
  have ho6'''''' := ho6'''''.below hb19
  clear ho6'''''
  have ho7'''''' := ho7'''''.below hb19
  clear ho7'''''
  have ho10'''' := ho10'''.below hb19
  clear ho10'''
  have ho13''' := ho13''.below hb19
  clear ho13''
  have ho14''' := ho14''.below hb19
  clear ho14''
  obtain ⟨hc9x0, gc9x0⟩ := k9'''''.at_ 0 (x := .slice A6 (playB xs0).l.length d6) rfl
  obtain ⟨hc9x1, gc9x1⟩ := k9'''''.at_ 1 (x := .slice B6 (playB xs0).h.length e6) rfl
  obtain ⟨hc9x2, gc9x2⟩ := k9'''''.at_ 2 (x := .slice C6 (playB xs0).w.length f6) rfl
  obtain ⟨hc9x3, gc9x3⟩ := k9'''''.at_ 3 (x := .slice D6 (playB xs0).f.length g6) rfl
  obtain ⟨hc9x4, gc9x4⟩ := k9'''''.at_ 4 (x := .int .i64 (playB xs0).n) rfl
  have l9 := k9'''''.lt
  obtain ⟨hc16x0, gc16x0⟩ := k16''.at_ 0 (x := .slice A13 (playB xs0).l.length d13) rfl
  obtain ⟨hc16x1, gc16x1⟩ := k16''.at_ 1 (x := .slice B13 (playB xs0).h.length e13) rfl
  obtain ⟨hc16x2, gc16x2⟩ := k16''.at_ 2 (x := .slice C13 (playB xs0).w.length f13) rfl
  obtain ⟨hc16x3, gc16x3⟩ := k16''.at_ 3 (x := .slice D13 (playB xs0).f.length g13) rfl
  obtain ⟨hc16x4, gc16x4⟩ := k16''.at_ 4 (x := .int .i64 (playB xs0).n) rfl
  have l16 := k16''.lt
  go_wp2_with fail
  refine (toOpS _ xs0 _ (HAaOps.out.below hB''''''''') (by omega)).mono ?_
  rintro e w21 ⟨v21x0, bs21, rfl, ho21, lo21, hb21⟩
  clear hc9x0 gc9x0 hc9x1 gc9x1 hc9x2 gc9x2 hc9x3 gc9x3 hc9x4 gc9x4 l9 hc16x0 gc16x0 hc16x1 gc16x1 hc16x2 gc16x2 hc16x3 gc16x3 hc16x4 gc16x4 l16
  have sz22 := hb21.size
  try simp only [World.size_alloc] at sz22
  have hB'''''''''' := hB'''''''''.trans (hb21.mono hB'''''''''.size)
  clear hB'''''''''
  have k9'''''' := k9'''''.below hb21 k9'''''.lt
  clear k9'''''
  have k16''' := k16''.below hb21 k16''.lt
  clear k16''
  have ho3'''''''' := ho3'''''''.below hb21
  clear ho3'''''''
  have ho6''''''' := ho6''''''.below hb21
  clear ho6''''''
  have ho7''''''' := ho7''''''.below hb21
  clear ho7''''''
  have ho10''''' := ho10''''.below hb21
  clear ho10''''
  have ho13'''' := ho13'''.below hb21
  clear ho13'''
  have ho14'''' := ho14'''.below hb21
  clear ho14'''
  have hi21 := ho21.lt
  try simp only [World.size_alloc] at lo21
  obtain ⟨A21, d21, rfl, -, -⟩ := ho21.slice
  obtain ⟨hc9x0, gc9x0⟩ := k9''''''.at_ 0 (x := .slice A6 (playB xs0).l.length d6) rfl
  obtain ⟨hc9x1, gc9x1⟩ := k9''''''.at_ 1 (x := .slice B6 (playB xs0).h.length e6) rfl
  obtain ⟨hc9x2, gc9x2⟩ := k9''''''.at_ 2 (x := .slice C6 (playB xs0).w.length f6) rfl
  obtain ⟨hc9x3, gc9x3⟩ := k9''''''.at_ 3 (x := .slice D6 (playB xs0).f.length g6) rfl
  obtain ⟨hc9x4, gc9x4⟩ := k9''''''.at_ 4 (x := .int .i64 (playB xs0).n) rfl
  have l9 := k9''''''.lt
  obtain ⟨hc16x0, gc16x0⟩ := k16'''.at_ 0 (x := .slice A13 (playB xs0).l.length d13) rfl
  obtain ⟨hc16x1, gc16x1⟩ := k16'''.at_ 1 (x := .slice B13 (playB xs0).h.length e13) rfl
  obtain ⟨hc16x2, gc16x2⟩ := k16'''.at_ 2 (x := .slice C13 (playB xs0).w.length f13) rfl
  obtain ⟨hc16x3, gc16x3⟩ := k16'''.at_ 3 (x := .slice D13 (playB xs0).f.length g13) rfl
  obtain ⟨hc16x4, gc16x4⟩ := k16'''.at_ 4 (x := .int .i64 (playB xs0).n) rfl
  have l16 := k16'''.lt
  go_wp2_with fail
  refine (eqOpS _ _ (xs0) (xs0) _ ho10'''''.rd ho21.rd).mono ?_
  rintro e w23 ⟨rfl, hb23⟩
  rw [decide_eq_true rfl]
  clear hc9x0 gc9x0 hc9x1 gc9x1 hc9x2 gc9x2 hc9x3 gc9x3 hc9x4 gc9x4 l9 hc16x0 gc16x0 hc16x1 gc16x1 hc16x2 gc16x2 hc16x3 gc16x3 hc16x4 gc16x4 l16
  have sz24 := hb23.size
  try simp only [World.size_alloc] at sz24
  have hB''''''''''' := hB''''''''''.trans (hb23.mono hB''''''''''.size)
  clear hB''''''''''
  have k9''''''' := k9''''''.below hb23 k9''''''.lt
  clear k9''''''
  have k16'''' := k16'''.below hb23 k16'''.lt
  clear k16'''
  have ho3''''''''' := ho3''''''''.below hb23
  clear ho3''''''''
  have ho6'''''''' := ho6'''''''.below hb23
  clear ho6'''''''
  have ho7'''''''' := ho7'''''''.below hb23
  clear ho7'''''''
  have ho10'''''' := ho10'''''.below hb23
  clear ho10'''''
  have ho13''''' := ho13''''.below hb23
  clear ho13''''
  have ho14''''' := ho14''''.below hb23
  clear ho14''''
  have ho21' := ho21.below hb23
  clear ho21
  obtain ⟨hc9x0, gc9x0⟩ := k9'''''''.at_ 0 (x := .slice A6 (playB xs0).l.length d6) rfl
  obtain ⟨hc9x1, gc9x1⟩ := k9'''''''.at_ 1 (x := .slice B6 (playB xs0).h.length e6) rfl
  obtain ⟨hc9x2, gc9x2⟩ := k9'''''''.at_ 2 (x := .slice C6 (playB xs0).w.length f6) rfl
  obtain ⟨hc9x3, gc9x3⟩ := k9'''''''.at_ 3 (x := .slice D6 (playB xs0).f.length g6) rfl
  obtain ⟨hc9x4, gc9x4⟩ := k9'''''''.at_ 4 (x := .int .i64 (playB xs0).n) rfl
  have l9 := k9'''''''.lt
  obtain ⟨hc16x0, gc16x0⟩ := k16''''.at_ 0 (x := .slice A13 (playB xs0).l.length d13) rfl
  obtain ⟨hc16x1, gc16x1⟩ := k16''''.at_ 1 (x := .slice B13 (playB xs0).h.length e13) rfl
  obtain ⟨hc16x2, gc16x2⟩ := k16''''.at_ 2 (x := .slice C13 (playB xs0).w.length f13) rfl
  obtain ⟨hc16x3, gc16x3⟩ := k16''''.at_ 3 (x := .slice D13 (playB xs0).f.length g13) rfl
  obtain ⟨hc16x4, gc16x4⟩ := k16''''.at_ 4 (x := .int .i64 (playB xs0).n) rfl
  have l16 := k16''''.lt
  go_wp2_with fail
  refine (markOpS _ _ xs0.length bs10 (1) _ ho10'''''' (by omega) (by omega) (by omega)).mono ?_
  rintro e w25 ⟨rfl, hq25, hon25⟩
  clear hc9x0 gc9x0 hc9x1 gc9x1 hc9x2 gc9x2 hc9x3 gc9x3 hc9x4 gc9x4 l9 hc16x0 gc16x0 hc16x1 gc16x1 hc16x2 gc16x2 hc16x3 gc16x3 hc16x4 gc16x4 l16
  have sz26 := hon25.size
  try simp only [World.size_alloc] at sz26
  have hB'''''''''''' := hB'''''''''''.trans (hon25.below hB'''''''''''.size (fun b hb => by have := lo10 b hb; omega))
  clear hB'''''''''''
  have k9'''''''' := k9'''''''.only hon25 (fun hm => by have := lo10 _ hm; have := hi10 _ hm; omega)
  clear k9'''''''
  have k16''''' := k16''''.only hon25 (fun hm => by have := lo10 _ hm; have := hi10 _ hm; omega)
  clear k16''''
  have ho3'''''''''' := ho3'''''''''.only hon25 (fun b hb hm => by have := lo10 b hm; have := hi10 b hm; have := lo3 b hb; have := hi3 b hb; omega)
  clear ho3'''''''''
  have ho6''''''''' := ho6''''''''.only hon25 (fun b hb hm => by have := lo10 b hm; have := hi10 b hm; have := lo6 b hb; have := hi6 b hb; omega)
  clear ho6''''''''
  have ho7''''''''' := ho7''''''''.only hon25 (fun b hb hm => by have := lo10 b hm; have := hi10 b hm; have := lo7 b hb; have := hi7 b hb; omega)
  clear ho7''''''''
  have ho13'''''' := ho13'''''.only hon25 (fun b hb hm => by have := lo10 b hm; have := hi10 b hm; have := lo13 b hb; have := hi13 b hb; omega)
  clear ho13'''''
  have ho14'''''' := ho14'''''.only hon25 (fun b hb hm => by have := lo10 b hm; have := hi10 b hm; have := lo14 b hb; have := hi14 b hb; omega)
  clear ho14'''''
  have ho21'' := ho21'.only hon25 (fun b hb hm => by have := lo10 b hm; have := hi10 b hm; have := lo21 b hb; have := hi21 b hb; omega)
  clear ho21'
  obtain ⟨hc9x0, gc9x0⟩ := k9''''''''.at_ 0 (x := .slice A6 (playB xs0).l.length d6) rfl
  obtain ⟨hc9x1, gc9x1⟩ := k9''''''''.at_ 1 (x := .slice B6 (playB xs0).h.length e6) rfl
  obtain ⟨hc9x2, gc9x2⟩ := k9''''''''.at_ 2 (x := .slice C6 (playB xs0).w.length f6) rfl
  obtain ⟨hc9x3, gc9x3⟩ := k9''''''''.at_ 3 (x := .slice D6 (playB xs0).f.length g6) rfl
  obtain ⟨hc9x4, gc9x4⟩ := k9''''''''.at_ 4 (x := .int .i64 (playB xs0).n) rfl
  have l9 := k9''''''''.lt
  obtain ⟨hc16x0, gc16x0⟩ := k16'''''.at_ 0 (x := .slice A13 (playB xs0).l.length d13) rfl
  obtain ⟨hc16x1, gc16x1⟩ := k16'''''.at_ 1 (x := .slice B13 (playB xs0).h.length e13) rfl
  obtain ⟨hc16x2, gc16x2⟩ := k16'''''.at_ 2 (x := .slice C13 (playB xs0).w.length f13) rfl
  obtain ⟨hc16x3, gc16x3⟩ := k16'''''.at_ 3 (x := .slice D13 (playB xs0).f.length g13) rfl
  obtain ⟨hc16x4, gc16x4⟩ := k16'''''.at_ 4 (x := .int .i64 (playB xs0).n) rfl
  have l16 := k16'''''.lt
  go_wp2_with fail
  refine (eqBench _ _ _ _ _ _ _ _ ((playB xs0)) ((playB xs0)) _ ho13''''''.rd ho6'''''''''.rd).mono ?_
  rintro e w27 ⟨rfl, hb27⟩
  rw [decide_eq_true rfl]
  clear hc9x0 gc9x0 hc9x1 gc9x1 hc9x2 gc9x2 hc9x3 gc9x3 hc9x4 gc9x4 l9 hc16x0 gc16x0 hc16x1 gc16x1 hc16x2 gc16x2 hc16x3 gc16x3 hc16x4 gc16x4 l16
  have sz28 := hb27.size
  try simp only [World.size_alloc] at sz28
  have hB''''''''''''' := hB''''''''''''.trans (hb27.mono hB''''''''''''.size)
  clear hB''''''''''''
  have k9''''''''' := k9''''''''.below hb27 k9''''''''.lt
  clear k9''''''''
  have k16'''''' := k16'''''.below hb27 k16'''''.lt
  clear k16'''''
  have ho3''''''''''' := ho3''''''''''.below hb27
  clear ho3''''''''''
  have ho6'''''''''' := ho6'''''''''.below hb27
  clear ho6'''''''''
  have ho7'''''''''' := ho7'''''''''.below hb27
  clear ho7'''''''''
  have hq25' := hq25.below hb27
  clear hq25
  have ho13''''''' := ho13''''''.below hb27
  clear ho13''''''
  have ho14''''''' := ho14''''''.below hb27
  clear ho14''''''
  have ho21''' := ho21''.below hb27
  clear ho21''
  obtain ⟨hc9x0, gc9x0⟩ := k9'''''''''.at_ 0 (x := .slice A6 (playB xs0).l.length d6) rfl
  obtain ⟨hc9x1, gc9x1⟩ := k9'''''''''.at_ 1 (x := .slice B6 (playB xs0).h.length e6) rfl
  obtain ⟨hc9x2, gc9x2⟩ := k9'''''''''.at_ 2 (x := .slice C6 (playB xs0).w.length f6) rfl
  obtain ⟨hc9x3, gc9x3⟩ := k9'''''''''.at_ 3 (x := .slice D6 (playB xs0).f.length g6) rfl
  obtain ⟨hc9x4, gc9x4⟩ := k9'''''''''.at_ 4 (x := .int .i64 (playB xs0).n) rfl
  have l9 := k9'''''''''.lt
  obtain ⟨hc16x0, gc16x0⟩ := k16''''''.at_ 0 (x := .slice A13 (playB xs0).l.length d13) rfl
  obtain ⟨hc16x1, gc16x1⟩ := k16''''''.at_ 1 (x := .slice B13 (playB xs0).h.length e13) rfl
  obtain ⟨hc16x2, gc16x2⟩ := k16''''''.at_ 2 (x := .slice C13 (playB xs0).w.length f13) rfl
  obtain ⟨hc16x3, gc16x3⟩ := k16''''''.at_ 3 (x := .slice D13 (playB xs0).f.length g13) rfl
  obtain ⟨hc16x4, gc16x4⟩ := k16''''''.at_ 4 (x := .int .i64 (playB xs0).n) rfl
  have l16 := k16''''''.lt
  go_wp2_with fail
  refine (eqIntSB _ _ ((playR xs0)) ((playR xs0)) _ ho14'''''''.rd ho7''''''''''.rd).mono ?_
  rintro e w29 ⟨rfl, hb29⟩
  rw [decide_eq_true rfl]
  clear hc9x0 gc9x0 hc9x1 gc9x1 hc9x2 gc9x2 hc9x3 gc9x3 hc9x4 gc9x4 l9 hc16x0 gc16x0 hc16x1 gc16x1 hc16x2 gc16x2 hc16x3 gc16x3 hc16x4 gc16x4 l16
  have sz30 := hb29.size
  try simp only [World.size_alloc] at sz30
  have hB'''''''''''''' := hB'''''''''''''.trans (hb29.mono hB'''''''''''''.size)
  clear hB'''''''''''''
  have k9'''''''''' := k9'''''''''.below hb29 k9'''''''''.lt
  clear k9'''''''''
  have k16''''''' := k16''''''.below hb29 k16''''''.lt
  clear k16''''''
  have ho3'''''''''''' := ho3'''''''''''.below hb29
  clear ho3'''''''''''
  have ho6''''''''''' := ho6''''''''''.below hb29
  clear ho6''''''''''
  have ho7''''''''''' := ho7''''''''''.below hb29
  clear ho7''''''''''
  have hq25'' := hq25'.below hb29
  clear hq25'
  have ho13'''''''' := ho13'''''''.below hb29
  clear ho13'''''''
  have ho14'''''''' := ho14'''''''.below hb29
  clear ho14'''''''
  have ho21'''' := ho21'''.below hb29
  clear ho21'''
  obtain ⟨hc9x0, gc9x0⟩ := k9''''''''''.at_ 0 (x := .slice A6 (playB xs0).l.length d6) rfl
  obtain ⟨hc9x1, gc9x1⟩ := k9''''''''''.at_ 1 (x := .slice B6 (playB xs0).h.length e6) rfl
  obtain ⟨hc9x2, gc9x2⟩ := k9''''''''''.at_ 2 (x := .slice C6 (playB xs0).w.length f6) rfl
  obtain ⟨hc9x3, gc9x3⟩ := k9''''''''''.at_ 3 (x := .slice D6 (playB xs0).f.length g6) rfl
  obtain ⟨hc9x4, gc9x4⟩ := k9''''''''''.at_ 4 (x := .int .i64 (playB xs0).n) rfl
  have l9 := k9''''''''''.lt
  obtain ⟨hc16x0, gc16x0⟩ := k16'''''''.at_ 0 (x := .slice A13 (playB xs0).l.length d13) rfl
  obtain ⟨hc16x1, gc16x1⟩ := k16'''''''.at_ 1 (x := .slice B13 (playB xs0).h.length e13) rfl
  obtain ⟨hc16x2, gc16x2⟩ := k16'''''''.at_ 2 (x := .slice C13 (playB xs0).w.length f13) rfl
  obtain ⟨hc16x3, gc16x3⟩ := k16'''''''.at_ 3 (x := .slice D13 (playB xs0).f.length g13) rfl
  obtain ⟨hc16x4, gc16x4⟩ := k16'''''''.at_ 4 (x := .int .i64 (playB xs0).n) rfl
  have l16 := k16'''''''.lt
  go_wp2_with fail
  refine (markBench _ _ _ _ (playB xs0) bs13 (1) _ ho13'''''''' (by omega) (by omega) (by omega)).mono ?_
  rintro e w31 ⟨rfl, hq31, hon31⟩
  clear hc9x0 gc9x0 hc9x1 gc9x1 hc9x2 gc9x2 hc9x3 gc9x3 hc9x4 gc9x4 l9 hc16x0 gc16x0 hc16x1 gc16x1 hc16x2 gc16x2 hc16x3 gc16x3 hc16x4 gc16x4 l16
  have sz32 := hon31.size
  try simp only [World.size_alloc] at sz32
  have hB''''''''''''''' := hB''''''''''''''.trans (hon31.below hB''''''''''''''.size (fun b hb => by have := lo13 b hb; omega))
  clear hB''''''''''''''
  have k9''''''''''' := k9''''''''''.only hon31 (fun hm => by have := lo13 _ hm; have := hi13 _ hm; omega)
  clear k9''''''''''
  have k16'''''''' := k16'''''''.only hon31 (fun hm => by have := lo13 _ hm; have := hi13 _ hm; omega)
  clear k16'''''''
  have ho3''''''''''''' := ho3''''''''''''.only hon31 (fun b hb hm => by have := lo13 b hm; have := hi13 b hm; have := lo3 b hb; have := hi3 b hb; omega)
  clear ho3''''''''''''
  have ho6'''''''''''' := ho6'''''''''''.only hon31 (fun b hb hm => by have := lo13 b hm; have := hi13 b hm; have := lo6 b hb; have := hi6 b hb; omega)
  clear ho6'''''''''''
  have ho7'''''''''''' := ho7'''''''''''.only hon31 (fun b hb hm => by have := lo13 b hm; have := hi13 b hm; have := lo7 b hb; have := hi7 b hb; omega)
  clear ho7'''''''''''
  have hq25''' := hq25''.only hon31 (fun b hb hm => by have := lo13 b hm; have := hi13 b hm; have := lo10 b hb; have := hi10 b hb; omega)
  clear hq25''
  have ho14''''''''' := ho14''''''''.only hon31 (fun b hb hm => hdis12 b hm hb)
  clear ho14''''''''
  have ho21''''' := ho21''''.only hon31 (fun b hb hm => by have := lo13 b hm; have := hi13 b hm; have := lo21 b hb; have := hi21 b hb; omega)
  clear ho21''''
  obtain ⟨hc9x0, gc9x0⟩ := k9'''''''''''.at_ 0 (x := .slice A6 (playB xs0).l.length d6) rfl
  obtain ⟨hc9x1, gc9x1⟩ := k9'''''''''''.at_ 1 (x := .slice B6 (playB xs0).h.length e6) rfl
  obtain ⟨hc9x2, gc9x2⟩ := k9'''''''''''.at_ 2 (x := .slice C6 (playB xs0).w.length f6) rfl
  obtain ⟨hc9x3, gc9x3⟩ := k9'''''''''''.at_ 3 (x := .slice D6 (playB xs0).f.length g6) rfl
  obtain ⟨hc9x4, gc9x4⟩ := k9'''''''''''.at_ 4 (x := .int .i64 (playB xs0).n) rfl
  have l9 := k9'''''''''''.lt
  obtain ⟨hc16x0, gc16x0⟩ := k16''''''''.at_ 0 (x := .slice A13 (playB xs0).l.length d13) rfl
  obtain ⟨hc16x1, gc16x1⟩ := k16''''''''.at_ 1 (x := .slice B13 (playB xs0).h.length e13) rfl
  obtain ⟨hc16x2, gc16x2⟩ := k16''''''''.at_ 2 (x := .slice C13 (playB xs0).w.length f13) rfl
  obtain ⟨hc16x3, gc16x3⟩ := k16''''''''.at_ 3 (x := .slice D13 (playB xs0).f.length g13) rfl
  obtain ⟨hc16x4, gc16x4⟩ := k16''''''''.at_ 4 (x := .int .i64 (playB xs0).n) rfl
  have l16 := k16''''''''.lt
  go_wp2_with fail
  refine (markIntS _ (playR xs0) bs14 (1 + (cntBn (playB xs0) : Int)) _ ho14''''''''' (by omega) (by omega) (by omega)).mono ?_
  rintro e w33 ⟨rfl, hq33, hon33⟩
  clear hc9x0 gc9x0 hc9x1 gc9x1 hc9x2 gc9x2 hc9x3 gc9x3 hc9x4 gc9x4 l9 hc16x0 gc16x0 hc16x1 gc16x1 hc16x2 gc16x2 hc16x3 gc16x3 hc16x4 gc16x4 l16
  have sz34 := hon33.size
  try simp only [World.size_alloc] at sz34
  have hB'''''''''''''''' := hB'''''''''''''''.trans (hon33.below hB'''''''''''''''.size (fun b hb => by have := lo14 b hb; omega))
  clear hB'''''''''''''''
  have k9'''''''''''' := k9'''''''''''.only hon33 (fun hm => by have := lo14 _ hm; have := hi14 _ hm; omega)
  clear k9'''''''''''
  have k16''''''''' := k16''''''''.only hon33 (fun hm => by have := lo14 _ hm; have := hi14 _ hm; omega)
  clear k16''''''''
  have ho3'''''''''''''' := ho3'''''''''''''.only hon33 (fun b hb hm => by have := lo14 b hm; have := hi14 b hm; have := lo3 b hb; have := hi3 b hb; omega)
  clear ho3'''''''''''''
  have ho6''''''''''''' := ho6''''''''''''.only hon33 (fun b hb hm => by have := lo14 b hm; have := hi14 b hm; have := lo6 b hb; have := hi6 b hb; omega)
  clear ho6''''''''''''
  have ho7''''''''''''' := ho7''''''''''''.only hon33 (fun b hb hm => by have := lo14 b hm; have := hi14 b hm; have := lo7 b hb; have := hi7 b hb; omega)
  clear ho7''''''''''''
  have hq25'''' := hq25'''.only hon33 (fun b hb hm => by have := lo14 b hm; have := hi14 b hm; have := lo10 b hb; have := hi10 b hb; omega)
  clear hq25'''
  have hq31' := hq31.only hon33 hdis12
  clear hq31
  have ho21'''''' := ho21'''''.only hon33 (fun b hb hm => by have := lo14 b hm; have := hi14 b hm; have := lo21 b hb; have := hi21 b hb; omega)
  clear ho21'''''
  obtain ⟨hc9x0, gc9x0⟩ := k9''''''''''''.at_ 0 (x := .slice A6 (playB xs0).l.length d6) rfl
  obtain ⟨hc9x1, gc9x1⟩ := k9''''''''''''.at_ 1 (x := .slice B6 (playB xs0).h.length e6) rfl
  obtain ⟨hc9x2, gc9x2⟩ := k9''''''''''''.at_ 2 (x := .slice C6 (playB xs0).w.length f6) rfl
  obtain ⟨hc9x3, gc9x3⟩ := k9''''''''''''.at_ 3 (x := .slice D6 (playB xs0).f.length g6) rfl
  obtain ⟨hc9x4, gc9x4⟩ := k9''''''''''''.at_ 4 (x := .int .i64 (playB xs0).n) rfl
  have l9 := k9''''''''''''.lt
  obtain ⟨hc16x0, gc16x0⟩ := k16'''''''''.at_ 0 (x := .slice A13 (playB xs0).l.length d13) rfl
  obtain ⟨hc16x1, gc16x1⟩ := k16'''''''''.at_ 1 (x := .slice B13 (playB xs0).h.length e13) rfl
  obtain ⟨hc16x2, gc16x2⟩ := k16'''''''''.at_ 2 (x := .slice C13 (playB xs0).w.length f13) rfl
  obtain ⟨hc16x3, gc16x3⟩ := k16'''''''''.at_ 3 (x := .slice D13 (playB xs0).f.length g13) rfl
  obtain ⟨hc16x4, gc16x4⟩ := k16'''''''''.at_ 4 (x := .int .i64 (playB xs0).n) rfl
  have l16 := k16'''''''''.lt
  go_wp2_with fail
  refine (heldBench _ _ _ _ (playB xs0) (1) _ hq31'.rd (by omega) (by omega) (by omega)).mono ?_
  rintro e w35 ⟨rfl, hb35⟩
  clear hc9x0 gc9x0 hc9x1 gc9x1 hc9x2 gc9x2 hc9x3 gc9x3 hc9x4 gc9x4 l9 hc16x0 gc16x0 hc16x1 gc16x1 hc16x2 gc16x2 hc16x3 gc16x3 hc16x4 gc16x4 l16
  have sz36 := hb35.size
  try simp only [World.size_alloc] at sz36
  have hB''''''''''''''''' := hB''''''''''''''''.trans (hb35.mono hB''''''''''''''''.size)
  clear hB''''''''''''''''
  have k9''''''''''''' := k9''''''''''''.below hb35 k9''''''''''''.lt
  clear k9''''''''''''
  have k16'''''''''' := k16'''''''''.below hb35 k16'''''''''.lt
  clear k16'''''''''
  have ho3''''''''''''''' := ho3''''''''''''''.below hb35
  clear ho3''''''''''''''
  have ho6'''''''''''''' := ho6'''''''''''''.below hb35
  clear ho6'''''''''''''
  have ho7'''''''''''''' := ho7'''''''''''''.below hb35
  clear ho7'''''''''''''
  have hq25''''' := hq25''''.below hb35
  clear hq25''''
  have hq31'' := hq31'.below hb35
  clear hq31'
  have hq33' := hq33.below hb35
  clear hq33
  have ho21''''''' := ho21''''''.below hb35
  clear ho21''''''
  obtain ⟨hc9x0, gc9x0⟩ := k9'''''''''''''.at_ 0 (x := .slice A6 (playB xs0).l.length d6) rfl
  obtain ⟨hc9x1, gc9x1⟩ := k9'''''''''''''.at_ 1 (x := .slice B6 (playB xs0).h.length e6) rfl
  obtain ⟨hc9x2, gc9x2⟩ := k9'''''''''''''.at_ 2 (x := .slice C6 (playB xs0).w.length f6) rfl
  obtain ⟨hc9x3, gc9x3⟩ := k9'''''''''''''.at_ 3 (x := .slice D6 (playB xs0).f.length g6) rfl
  obtain ⟨hc9x4, gc9x4⟩ := k9'''''''''''''.at_ 4 (x := .int .i64 (playB xs0).n) rfl
  have l9 := k9'''''''''''''.lt
  obtain ⟨hc16x0, gc16x0⟩ := k16''''''''''.at_ 0 (x := .slice A13 (playB xs0).l.length d13) rfl
  obtain ⟨hc16x1, gc16x1⟩ := k16''''''''''.at_ 1 (x := .slice B13 (playB xs0).h.length e13) rfl
  obtain ⟨hc16x2, gc16x2⟩ := k16''''''''''.at_ 2 (x := .slice C13 (playB xs0).w.length f13) rfl
  obtain ⟨hc16x3, gc16x3⟩ := k16''''''''''.at_ 3 (x := .slice D13 (playB xs0).f.length g13) rfl
  obtain ⟨hc16x4, gc16x4⟩ := k16''''''''''.at_ 4 (x := .int .i64 (playB xs0).n) rfl
  have l16 := k16''''''''''.lt
  go_wp2_with fail
  refine (heldIntSB _ (playR xs0).length (1 + (cntBn (playB xs0) : Int)) _ hq33'.rd (by omega) (by omega) (by omega)).mono ?_
  rintro e w37 ⟨rfl, hb37⟩
  clear hc9x0 gc9x0 hc9x1 gc9x1 hc9x2 gc9x2 hc9x3 gc9x3 hc9x4 gc9x4 l9 hc16x0 gc16x0 hc16x1 gc16x1 hc16x2 gc16x2 hc16x3 gc16x3 hc16x4 gc16x4 l16
  have sz38 := hb37.size
  try simp only [World.size_alloc] at sz38
  have hB'''''''''''''''''' := hB'''''''''''''''''.trans (hb37.mono hB'''''''''''''''''.size)
  clear hB'''''''''''''''''
  have k9'''''''''''''' := k9'''''''''''''.below hb37 k9'''''''''''''.lt
  clear k9'''''''''''''
  have k16''''''''''' := k16''''''''''.below hb37 k16''''''''''.lt
  clear k16''''''''''
  have ho3'''''''''''''''' := ho3'''''''''''''''.below hb37
  clear ho3'''''''''''''''
  have ho6''''''''''''''' := ho6''''''''''''''.below hb37
  clear ho6''''''''''''''
  have ho7''''''''''''''' := ho7''''''''''''''.below hb37
  clear ho7''''''''''''''
  have hq25'''''' := hq25'''''.below hb37
  clear hq25'''''
  have hq31''' := hq31''.below hb37
  clear hq31''
  have hq33'' := hq33'.below hb37
  clear hq33'
  have ho21'''''''' := ho21'''''''.below hb37
  clear ho21'''''''
  obtain ⟨hc9x0, gc9x0⟩ := k9''''''''''''''.at_ 0 (x := .slice A6 (playB xs0).l.length d6) rfl
  obtain ⟨hc9x1, gc9x1⟩ := k9''''''''''''''.at_ 1 (x := .slice B6 (playB xs0).h.length e6) rfl
  obtain ⟨hc9x2, gc9x2⟩ := k9''''''''''''''.at_ 2 (x := .slice C6 (playB xs0).w.length f6) rfl
  obtain ⟨hc9x3, gc9x3⟩ := k9''''''''''''''.at_ 3 (x := .slice D6 (playB xs0).f.length g6) rfl
  obtain ⟨hc9x4, gc9x4⟩ := k9''''''''''''''.at_ 4 (x := .int .i64 (playB xs0).n) rfl
  have l9 := k9''''''''''''''.lt
  obtain ⟨hc16x0, gc16x0⟩ := k16'''''''''''.at_ 0 (x := .slice A13 (playB xs0).l.length d13) rfl
  obtain ⟨hc16x1, gc16x1⟩ := k16'''''''''''.at_ 1 (x := .slice B13 (playB xs0).h.length e13) rfl
  obtain ⟨hc16x2, gc16x2⟩ := k16'''''''''''.at_ 2 (x := .slice C13 (playB xs0).w.length f13) rfl
  obtain ⟨hc16x3, gc16x3⟩ := k16'''''''''''.at_ 3 (x := .slice D13 (playB xs0).f.length g13) rfl
  obtain ⟨hc16x4, gc16x4⟩ := k16'''''''''''.at_ 4 (x := .int .i64 (playB xs0).n) rfl
  have l16 := k16'''''''''''.lt
  go_wp2_with fail
  refine (toOpS _ xs0 _ (HAaOps.out.below hB'''''''''''''''''') (by omega)).mono ?_
  rintro e w39 ⟨v39x0, bs39, rfl, ho39, lo39, hb39⟩
  clear hc9x0 gc9x0 hc9x1 gc9x1 hc9x2 gc9x2 hc9x3 gc9x3 hc9x4 gc9x4 l9 hc16x0 gc16x0 hc16x1 gc16x1 hc16x2 gc16x2 hc16x3 gc16x3 hc16x4 gc16x4 l16
  have sz40 := hb39.size
  try simp only [World.size_alloc] at sz40
  have hB''''''''''''''''''' := hB''''''''''''''''''.trans (hb39.mono hB''''''''''''''''''.size)
  clear hB''''''''''''''''''
  have k9''''''''''''''' := k9''''''''''''''.below hb39 k9''''''''''''''.lt
  clear k9''''''''''''''
  have k16'''''''''''' := k16'''''''''''.below hb39 k16'''''''''''.lt
  clear k16'''''''''''
  have ho3''''''''''''''''' := ho3''''''''''''''''.below hb39
  clear ho3''''''''''''''''
  have ho6'''''''''''''''' := ho6'''''''''''''''.below hb39
  clear ho6'''''''''''''''
  have ho7'''''''''''''''' := ho7'''''''''''''''.below hb39
  clear ho7'''''''''''''''
  have hq25''''''' := hq25''''''.below hb39
  clear hq25''''''
  have hq31'''' := hq31'''.below hb39
  clear hq31'''
  have hq33''' := hq33''.below hb39
  clear hq33''
  have ho21''''''''' := ho21''''''''.below hb39
  clear ho21''''''''
  have hi39 := ho39.lt
  try simp only [World.size_alloc] at lo39
  obtain ⟨A39, d39, rfl, -, -⟩ := ho39.slice
  obtain ⟨hc9x0, gc9x0⟩ := k9'''''''''''''''.at_ 0 (x := .slice A6 (playB xs0).l.length d6) rfl
  obtain ⟨hc9x1, gc9x1⟩ := k9'''''''''''''''.at_ 1 (x := .slice B6 (playB xs0).h.length e6) rfl
  obtain ⟨hc9x2, gc9x2⟩ := k9'''''''''''''''.at_ 2 (x := .slice C6 (playB xs0).w.length f6) rfl
  obtain ⟨hc9x3, gc9x3⟩ := k9'''''''''''''''.at_ 3 (x := .slice D6 (playB xs0).f.length g6) rfl
  obtain ⟨hc9x4, gc9x4⟩ := k9'''''''''''''''.at_ 4 (x := .int .i64 (playB xs0).n) rfl
  have l9 := k9'''''''''''''''.lt
  obtain ⟨hc16x0, gc16x0⟩ := k16''''''''''''.at_ 0 (x := .slice A13 (playB xs0).l.length d13) rfl
  obtain ⟨hc16x1, gc16x1⟩ := k16''''''''''''.at_ 1 (x := .slice B13 (playB xs0).h.length e13) rfl
  obtain ⟨hc16x2, gc16x2⟩ := k16''''''''''''.at_ 2 (x := .slice C13 (playB xs0).w.length f13) rfl
  obtain ⟨hc16x3, gc16x3⟩ := k16''''''''''''.at_ 3 (x := .slice D13 (playB xs0).f.length g13) rfl
  obtain ⟨hc16x4, gc16x4⟩ := k16''''''''''''.at_ 4 (x := .int .i64 (playB xs0).n) rfl
  have l16 := k16''''''''''''.lt
  go_wp2_with fail
  refine (impl_PlayCount _ xs0 _ ho39.rd).mono ?_
  rintro e w43 ⟨v42x0, v42x1, v42x2, v42x3, bs42, v43x0, bs43, rfl, ho42, ho43, lo42, lo43, hdis41, hb41⟩
  clear hc9x0 gc9x0 hc9x1 gc9x1 hc9x2 gc9x2 hc9x3 gc9x3 hc9x4 gc9x4 l9 hc16x0 gc16x0 hc16x1 gc16x1 hc16x2 gc16x2 hc16x3 gc16x3 hc16x4 gc16x4 l16
  have sz44 := hb41.size
  try simp only [World.size_alloc] at sz44
  have hB'''''''''''''''''''' := hB'''''''''''''''''''.trans (hb41.mono hB'''''''''''''''''''.size)
  clear hB'''''''''''''''''''
  have k9'''''''''''''''' := k9'''''''''''''''.below hb41 k9'''''''''''''''.lt
  clear k9'''''''''''''''
  have k16''''''''''''' := k16''''''''''''.below hb41 k16''''''''''''.lt
  clear k16''''''''''''
  have ho3'''''''''''''''''' := ho3'''''''''''''''''.below hb41
  clear ho3'''''''''''''''''
  have ho6''''''''''''''''' := ho6''''''''''''''''.below hb41
  clear ho6''''''''''''''''
  have ho7''''''''''''''''' := ho7''''''''''''''''.below hb41
  clear ho7''''''''''''''''
  have hq25'''''''' := hq25'''''''.below hb41
  clear hq25'''''''
  have hq31''''' := hq31''''.below hb41
  clear hq31''''
  have hq33'''' := hq33'''.below hb41
  clear hq33'''
  have ho21'''''''''' := ho21'''''''''.below hb41
  clear ho21'''''''''
  have ho39' := ho39.below hb41
  clear ho39
  have hi42 := ho42.lt
  try simp only [World.size_alloc] at lo42
  obtain ⟨A42, d42, B42, e42, C42, f42, D42, g42, rfl, rfl, rfl, rfl⟩ := ho42.slices
  have hi43 := ho43.lt
  try simp only [World.size_alloc] at lo43
  obtain ⟨A43, d43, rfl, -, -⟩ := ho43.slice
  obtain ⟨hc9x0, gc9x0⟩ := k9''''''''''''''''.at_ 0 (x := .slice A6 (playB xs0).l.length d6) rfl
  obtain ⟨hc9x1, gc9x1⟩ := k9''''''''''''''''.at_ 1 (x := .slice B6 (playB xs0).h.length e6) rfl
  obtain ⟨hc9x2, gc9x2⟩ := k9''''''''''''''''.at_ 2 (x := .slice C6 (playB xs0).w.length f6) rfl
  obtain ⟨hc9x3, gc9x3⟩ := k9''''''''''''''''.at_ 3 (x := .slice D6 (playB xs0).f.length g6) rfl
  obtain ⟨hc9x4, gc9x4⟩ := k9''''''''''''''''.at_ 4 (x := .int .i64 (playB xs0).n) rfl
  have l9 := k9''''''''''''''''.lt
  obtain ⟨hc16x0, gc16x0⟩ := k16'''''''''''''.at_ 0 (x := .slice A13 (playB xs0).l.length d13) rfl
  obtain ⟨hc16x1, gc16x1⟩ := k16'''''''''''''.at_ 1 (x := .slice B13 (playB xs0).h.length e13) rfl
  obtain ⟨hc16x2, gc16x2⟩ := k16'''''''''''''.at_ 2 (x := .slice C13 (playB xs0).w.length f13) rfl
  obtain ⟨hc16x3, gc16x3⟩ := k16'''''''''''''.at_ 3 (x := .slice D13 (playB xs0).f.length g13) rfl
  obtain ⟨hc16x4, gc16x4⟩ := k16'''''''''''''.at_ 4 (x := .int .i64 (playB xs0).n) rfl
  have l16 := k16'''''''''''''.lt
  go_wp2_with fail
  clear hc9x0 gc9x0 hc9x1 gc9x1 hc9x2 gc9x2 hc9x3 gc9x3 hc9x4 gc9x4 l9 hc16x0 gc16x0 hc16x1 gc16x1 hc16x2 gc16x2 hc16x3 gc16x3 hc16x4 gc16x4 l16
  have k9''''''''''''''''' := k9''''''''''''''''.alloc (.cells #[.slice A42 (playB xs0).l.length d42, .slice B42 (playB xs0).h.length e42, .slice C42 (playB xs0).w.length f42, .slice D42 (playB xs0).f.length g42, .int .i64 (playB xs0).n] 31)
  clear k9''''''''''''''''
  have k16'''''''''''''' := k16'''''''''''''.alloc (.cells #[.slice A42 (playB xs0).l.length d42, .slice B42 (playB xs0).h.length e42, .slice C42 (playB xs0).w.length f42, .slice D42 (playB xs0).f.length g42, .int .i64 (playB xs0).n] 31)
  clear k16'''''''''''''
  have ho3''''''''''''''''''' := ho3''''''''''''''''''.below ((Below.refl _ _).alloc (Nat.le_refl _) (.cells #[.slice A42 (playB xs0).l.length d42, .slice B42 (playB xs0).h.length e42, .slice C42 (playB xs0).w.length f42, .slice D42 (playB xs0).f.length g42, .int .i64 (playB xs0).n] 31))
  clear ho3''''''''''''''''''
  have ho6'''''''''''''''''' := ho6'''''''''''''''''.below ((Below.refl _ _).alloc (Nat.le_refl _) (.cells #[.slice A42 (playB xs0).l.length d42, .slice B42 (playB xs0).h.length e42, .slice C42 (playB xs0).w.length f42, .slice D42 (playB xs0).f.length g42, .int .i64 (playB xs0).n] 31))
  clear ho6'''''''''''''''''
  have ho7'''''''''''''''''' := ho7'''''''''''''''''.below ((Below.refl _ _).alloc (Nat.le_refl _) (.cells #[.slice A42 (playB xs0).l.length d42, .slice B42 (playB xs0).h.length e42, .slice C42 (playB xs0).w.length f42, .slice D42 (playB xs0).f.length g42, .int .i64 (playB xs0).n] 31))
  clear ho7'''''''''''''''''
  have hq25''''''''' := hq25''''''''.below ((Below.refl _ _).alloc (Nat.le_refl _) (.cells #[.slice A42 (playB xs0).l.length d42, .slice B42 (playB xs0).h.length e42, .slice C42 (playB xs0).w.length f42, .slice D42 (playB xs0).f.length g42, .int .i64 (playB xs0).n] 31))
  clear hq25''''''''
  have hq31'''''' := hq31'''''.below ((Below.refl _ _).alloc (Nat.le_refl _) (.cells #[.slice A42 (playB xs0).l.length d42, .slice B42 (playB xs0).h.length e42, .slice C42 (playB xs0).w.length f42, .slice D42 (playB xs0).f.length g42, .int .i64 (playB xs0).n] 31))
  clear hq31'''''
  have hq33''''' := hq33''''.below ((Below.refl _ _).alloc (Nat.le_refl _) (.cells #[.slice A42 (playB xs0).l.length d42, .slice B42 (playB xs0).h.length e42, .slice C42 (playB xs0).w.length f42, .slice D42 (playB xs0).f.length g42, .int .i64 (playB xs0).n] 31))
  clear hq33''''
  have ho21''''''''''' := ho21''''''''''.below ((Below.refl _ _).alloc (Nat.le_refl _) (.cells #[.slice A42 (playB xs0).l.length d42, .slice B42 (playB xs0).h.length e42, .slice C42 (playB xs0).w.length f42, .slice D42 (playB xs0).f.length g42, .int .i64 (playB xs0).n] 31))
  clear ho21''''''''''
  have ho39'' := ho39'.below ((Below.refl _ _).alloc (Nat.le_refl _) (.cells #[.slice A42 (playB xs0).l.length d42, .slice B42 (playB xs0).h.length e42, .slice C42 (playB xs0).w.length f42, .slice D42 (playB xs0).f.length g42, .int .i64 (playB xs0).n] 31))
  clear ho39'
  have ho42' := ho42.below ((Below.refl _ _).alloc (Nat.le_refl _) (.cells #[.slice A42 (playB xs0).l.length d42, .slice B42 (playB xs0).h.length e42, .slice C42 (playB xs0).w.length f42, .slice D42 (playB xs0).f.length g42, .int .i64 (playB xs0).n] 31))
  clear ho42
  have ho43' := ho43.below ((Below.refl _ _).alloc (Nat.le_refl _) (.cells #[.slice A42 (playB xs0).l.length d42, .slice B42 (playB xs0).h.length e42, .slice C42 (playB xs0).w.length f42, .slice D42 (playB xs0).f.length g42, .int .i64 (playB xs0).n] 31))
  clear ho43
  have hB''''''''''''''''''''' := hB''''''''''''''''''''.alloc hB''''''''''''''''''''.size (.cells #[.slice A42 (playB xs0).l.length d42, .slice B42 (playB xs0).h.length e42, .slice C42 (playB xs0).w.length f42, .slice D42 (playB xs0).f.length g42, .int .i64 (playB xs0).n] 31)
  clear hB''''''''''''''''''''
  have k45 := Bk.new w43 #[.slice A42 (playB xs0).l.length d42, .slice B42 (playB xs0).h.length e42, .slice C42 (playB xs0).w.length f42, .slice D42 (playB xs0).f.length g42, .int .i64 (playB xs0).n] 31
  refine (eqBench _ _ _ _ _ _ _ _ ((playB xs0)) ((playB xs0)) _ ho42'.rd ho6''''''''''''''''''.rd).mono ?_
  rintro e w46 ⟨rfl, hb46⟩
  rw [decide_eq_true rfl]
  have sz47 := hb46.size
  try simp only [World.size_alloc] at sz47
  have hB'''''''''''''''''''''' := hB'''''''''''''''''''''.trans (hb46.mono hB'''''''''''''''''''''.size)
  clear hB'''''''''''''''''''''
  have k9'''''''''''''''''' := k9'''''''''''''''''.below hb46 k9'''''''''''''''''.lt
  clear k9'''''''''''''''''
  have k16''''''''''''''' := k16''''''''''''''.below hb46 k16''''''''''''''.lt
  clear k16''''''''''''''
  have k45' := k45.below hb46 k45.lt
  clear k45
  have ho3'''''''''''''''''''' := ho3'''''''''''''''''''.below hb46
  clear ho3'''''''''''''''''''
  have ho6''''''''''''''''''' := ho6''''''''''''''''''.below hb46
  clear ho6''''''''''''''''''
  have ho7''''''''''''''''''' := ho7''''''''''''''''''.below hb46
  clear ho7''''''''''''''''''
  have hq25'''''''''' := hq25'''''''''.below hb46
  clear hq25'''''''''
  have hq31''''''' := hq31''''''.below hb46
  clear hq31''''''
  have hq33'''''' := hq33'''''.below hb46
  clear hq33'''''
  have ho21'''''''''''' := ho21'''''''''''.below hb46
  clear ho21'''''''''''
  have ho39''' := ho39''.below hb46
  clear ho39''
  have ho42'' := ho42'.below hb46
  clear ho42'
  have ho43'' := ho43'.below hb46
  clear ho43'
  obtain ⟨hc9x0, gc9x0⟩ := k9''''''''''''''''''.at_ 0 (x := .slice A6 (playB xs0).l.length d6) rfl
  obtain ⟨hc9x1, gc9x1⟩ := k9''''''''''''''''''.at_ 1 (x := .slice B6 (playB xs0).h.length e6) rfl
  obtain ⟨hc9x2, gc9x2⟩ := k9''''''''''''''''''.at_ 2 (x := .slice C6 (playB xs0).w.length f6) rfl
  obtain ⟨hc9x3, gc9x3⟩ := k9''''''''''''''''''.at_ 3 (x := .slice D6 (playB xs0).f.length g6) rfl
  obtain ⟨hc9x4, gc9x4⟩ := k9''''''''''''''''''.at_ 4 (x := .int .i64 (playB xs0).n) rfl
  have l9 := k9''''''''''''''''''.lt
  obtain ⟨hc16x0, gc16x0⟩ := k16'''''''''''''''.at_ 0 (x := .slice A13 (playB xs0).l.length d13) rfl
  obtain ⟨hc16x1, gc16x1⟩ := k16'''''''''''''''.at_ 1 (x := .slice B13 (playB xs0).h.length e13) rfl
  obtain ⟨hc16x2, gc16x2⟩ := k16'''''''''''''''.at_ 2 (x := .slice C13 (playB xs0).w.length f13) rfl
  obtain ⟨hc16x3, gc16x3⟩ := k16'''''''''''''''.at_ 3 (x := .slice D13 (playB xs0).f.length g13) rfl
  obtain ⟨hc16x4, gc16x4⟩ := k16'''''''''''''''.at_ 4 (x := .int .i64 (playB xs0).n) rfl
  have l16 := k16'''''''''''''''.lt
  obtain ⟨hc45x0, gc45x0⟩ := k45'.at_ 0 (x := .slice A42 (playB xs0).l.length d42) rfl
  obtain ⟨hc45x1, gc45x1⟩ := k45'.at_ 1 (x := .slice B42 (playB xs0).h.length e42) rfl
  obtain ⟨hc45x2, gc45x2⟩ := k45'.at_ 2 (x := .slice C42 (playB xs0).w.length f42) rfl
  obtain ⟨hc45x3, gc45x3⟩ := k45'.at_ 3 (x := .slice D42 (playB xs0).f.length g42) rfl
  obtain ⟨hc45x4, gc45x4⟩ := k45'.at_ 4 (x := .int .i64 (playB xs0).n) rfl
  have l45 := k45'.lt
  go_wp2_with fail
  refine (eqIntSB _ _ ((playR xs0)) ((playR xs0)) _ ho43''.rd ho7'''''''''''''''''''.rd).mono ?_
  rintro e w48 ⟨rfl, hb48⟩
  rw [decide_eq_true rfl]
  clear hc9x0 gc9x0 hc9x1 gc9x1 hc9x2 gc9x2 hc9x3 gc9x3 hc9x4 gc9x4 l9 hc16x0 gc16x0 hc16x1 gc16x1 hc16x2 gc16x2 hc16x3 gc16x3 hc16x4 gc16x4 l16 hc45x0 gc45x0 hc45x1 gc45x1 hc45x2 gc45x2 hc45x3 gc45x3 hc45x4 gc45x4 l45
  have sz49 := hb48.size
  try simp only [World.size_alloc] at sz49
  have hB''''''''''''''''''''''' := hB''''''''''''''''''''''.trans (hb48.mono hB''''''''''''''''''''''.size)
  clear hB''''''''''''''''''''''
  have k9''''''''''''''''''' := k9''''''''''''''''''.below hb48 k9''''''''''''''''''.lt
  clear k9''''''''''''''''''
  have k16'''''''''''''''' := k16'''''''''''''''.below hb48 k16'''''''''''''''.lt
  clear k16'''''''''''''''
  have k45'' := k45'.below hb48 k45'.lt
  clear k45'
  have ho3''''''''''''''''''''' := ho3''''''''''''''''''''.below hb48
  clear ho3''''''''''''''''''''
  have ho6'''''''''''''''''''' := ho6'''''''''''''''''''.below hb48
  clear ho6'''''''''''''''''''
  have ho7'''''''''''''''''''' := ho7'''''''''''''''''''.below hb48
  clear ho7'''''''''''''''''''
  have hq25''''''''''' := hq25''''''''''.below hb48
  clear hq25''''''''''
  have hq31'''''''' := hq31'''''''.below hb48
  clear hq31'''''''
  have hq33''''''' := hq33''''''.below hb48
  clear hq33''''''
  have ho21''''''''''''' := ho21''''''''''''.below hb48
  clear ho21''''''''''''
  have ho39'''' := ho39'''.below hb48
  clear ho39'''
  have ho42''' := ho42''.below hb48
  clear ho42''
  have ho43''' := ho43''.below hb48
  clear ho43''
  obtain ⟨hc9x0, gc9x0⟩ := k9'''''''''''''''''''.at_ 0 (x := .slice A6 (playB xs0).l.length d6) rfl
  obtain ⟨hc9x1, gc9x1⟩ := k9'''''''''''''''''''.at_ 1 (x := .slice B6 (playB xs0).h.length e6) rfl
  obtain ⟨hc9x2, gc9x2⟩ := k9'''''''''''''''''''.at_ 2 (x := .slice C6 (playB xs0).w.length f6) rfl
  obtain ⟨hc9x3, gc9x3⟩ := k9'''''''''''''''''''.at_ 3 (x := .slice D6 (playB xs0).f.length g6) rfl
  obtain ⟨hc9x4, gc9x4⟩ := k9'''''''''''''''''''.at_ 4 (x := .int .i64 (playB xs0).n) rfl
  have l9 := k9'''''''''''''''''''.lt
  obtain ⟨hc16x0, gc16x0⟩ := k16''''''''''''''''.at_ 0 (x := .slice A13 (playB xs0).l.length d13) rfl
  obtain ⟨hc16x1, gc16x1⟩ := k16''''''''''''''''.at_ 1 (x := .slice B13 (playB xs0).h.length e13) rfl
  obtain ⟨hc16x2, gc16x2⟩ := k16''''''''''''''''.at_ 2 (x := .slice C13 (playB xs0).w.length f13) rfl
  obtain ⟨hc16x3, gc16x3⟩ := k16''''''''''''''''.at_ 3 (x := .slice D13 (playB xs0).f.length g13) rfl
  obtain ⟨hc16x4, gc16x4⟩ := k16''''''''''''''''.at_ 4 (x := .int .i64 (playB xs0).n) rfl
  have l16 := k16''''''''''''''''.lt
  obtain ⟨hc45x0, gc45x0⟩ := k45''.at_ 0 (x := .slice A42 (playB xs0).l.length d42) rfl
  obtain ⟨hc45x1, gc45x1⟩ := k45''.at_ 1 (x := .slice B42 (playB xs0).h.length e42) rfl
  obtain ⟨hc45x2, gc45x2⟩ := k45''.at_ 2 (x := .slice C42 (playB xs0).w.length f42) rfl
  obtain ⟨hc45x3, gc45x3⟩ := k45''.at_ 3 (x := .slice D42 (playB xs0).f.length g42) rfl
  obtain ⟨hc45x4, gc45x4⟩ := k45''.at_ 4 (x := .int .i64 (playB xs0).n) rfl
  have l45 := k45''.lt
  go_wp2_with fail
  refine (heldBench _ _ _ _ (playB xs0) (1) _ hq31''''''''.rd (by omega) (by omega) (by omega)).mono ?_
  rintro e w50 ⟨rfl, hb50⟩
  clear hc9x0 gc9x0 hc9x1 gc9x1 hc9x2 gc9x2 hc9x3 gc9x3 hc9x4 gc9x4 l9 hc16x0 gc16x0 hc16x1 gc16x1 hc16x2 gc16x2 hc16x3 gc16x3 hc16x4 gc16x4 l16 hc45x0 gc45x0 hc45x1 gc45x1 hc45x2 gc45x2 hc45x3 gc45x3 hc45x4 gc45x4 l45
  have sz51 := hb50.size
  try simp only [World.size_alloc] at sz51
  have hB'''''''''''''''''''''''' := hB'''''''''''''''''''''''.trans (hb50.mono hB'''''''''''''''''''''''.size)
  clear hB'''''''''''''''''''''''
  have k9'''''''''''''''''''' := k9'''''''''''''''''''.below hb50 k9'''''''''''''''''''.lt
  clear k9'''''''''''''''''''
  have k16''''''''''''''''' := k16''''''''''''''''.below hb50 k16''''''''''''''''.lt
  clear k16''''''''''''''''
  have k45''' := k45''.below hb50 k45''.lt
  clear k45''
  have ho3'''''''''''''''''''''' := ho3'''''''''''''''''''''.below hb50
  clear ho3'''''''''''''''''''''
  have ho6''''''''''''''''''''' := ho6''''''''''''''''''''.below hb50
  clear ho6''''''''''''''''''''
  have ho7''''''''''''''''''''' := ho7''''''''''''''''''''.below hb50
  clear ho7''''''''''''''''''''
  have hq25'''''''''''' := hq25'''''''''''.below hb50
  clear hq25'''''''''''
  have hq31''''''''' := hq31''''''''.below hb50
  clear hq31''''''''
  have hq33'''''''' := hq33'''''''.below hb50
  clear hq33'''''''
  have ho21'''''''''''''' := ho21'''''''''''''.below hb50
  clear ho21'''''''''''''
  have ho39''''' := ho39''''.below hb50
  clear ho39''''
  have ho42'''' := ho42'''.below hb50
  clear ho42'''
  have ho43'''' := ho43'''.below hb50
  clear ho43'''
  obtain ⟨hc9x0, gc9x0⟩ := k9''''''''''''''''''''.at_ 0 (x := .slice A6 (playB xs0).l.length d6) rfl
  obtain ⟨hc9x1, gc9x1⟩ := k9''''''''''''''''''''.at_ 1 (x := .slice B6 (playB xs0).h.length e6) rfl
  obtain ⟨hc9x2, gc9x2⟩ := k9''''''''''''''''''''.at_ 2 (x := .slice C6 (playB xs0).w.length f6) rfl
  obtain ⟨hc9x3, gc9x3⟩ := k9''''''''''''''''''''.at_ 3 (x := .slice D6 (playB xs0).f.length g6) rfl
  obtain ⟨hc9x4, gc9x4⟩ := k9''''''''''''''''''''.at_ 4 (x := .int .i64 (playB xs0).n) rfl
  have l9 := k9''''''''''''''''''''.lt
  obtain ⟨hc16x0, gc16x0⟩ := k16'''''''''''''''''.at_ 0 (x := .slice A13 (playB xs0).l.length d13) rfl
  obtain ⟨hc16x1, gc16x1⟩ := k16'''''''''''''''''.at_ 1 (x := .slice B13 (playB xs0).h.length e13) rfl
  obtain ⟨hc16x2, gc16x2⟩ := k16'''''''''''''''''.at_ 2 (x := .slice C13 (playB xs0).w.length f13) rfl
  obtain ⟨hc16x3, gc16x3⟩ := k16'''''''''''''''''.at_ 3 (x := .slice D13 (playB xs0).f.length g13) rfl
  obtain ⟨hc16x4, gc16x4⟩ := k16'''''''''''''''''.at_ 4 (x := .int .i64 (playB xs0).n) rfl
  have l16 := k16'''''''''''''''''.lt
  obtain ⟨hc45x0, gc45x0⟩ := k45'''.at_ 0 (x := .slice A42 (playB xs0).l.length d42) rfl
  obtain ⟨hc45x1, gc45x1⟩ := k45'''.at_ 1 (x := .slice B42 (playB xs0).h.length e42) rfl
  obtain ⟨hc45x2, gc45x2⟩ := k45'''.at_ 2 (x := .slice C42 (playB xs0).w.length f42) rfl
  obtain ⟨hc45x3, gc45x3⟩ := k45'''.at_ 3 (x := .slice D42 (playB xs0).f.length g42) rfl
  obtain ⟨hc45x4, gc45x4⟩ := k45'''.at_ 4 (x := .int .i64 (playB xs0).n) rfl
  have l45 := k45'''.lt
  go_wp2_with fail
  refine (heldIntSB _ (playR xs0).length (1 + (cntBn (playB xs0) : Int)) _ hq33''''''''.rd (by omega) (by omega) (by omega)).mono ?_
  rintro e w52 ⟨rfl, hb52⟩
  clear hc9x0 gc9x0 hc9x1 gc9x1 hc9x2 gc9x2 hc9x3 gc9x3 hc9x4 gc9x4 l9 hc16x0 gc16x0 hc16x1 gc16x1 hc16x2 gc16x2 hc16x3 gc16x3 hc16x4 gc16x4 l16 hc45x0 gc45x0 hc45x1 gc45x1 hc45x2 gc45x2 hc45x3 gc45x3 hc45x4 gc45x4 l45
  have sz53 := hb52.size
  try simp only [World.size_alloc] at sz53
  have hB''''''''''''''''''''''''' := hB''''''''''''''''''''''''.trans (hb52.mono hB''''''''''''''''''''''''.size)
  clear hB''''''''''''''''''''''''
  have k9''''''''''''''''''''' := k9''''''''''''''''''''.below hb52 k9''''''''''''''''''''.lt
  clear k9''''''''''''''''''''
  have k16'''''''''''''''''' := k16'''''''''''''''''.below hb52 k16'''''''''''''''''.lt
  clear k16'''''''''''''''''
  have k45'''' := k45'''.below hb52 k45'''.lt
  clear k45'''
  have ho3''''''''''''''''''''''' := ho3''''''''''''''''''''''.below hb52
  clear ho3''''''''''''''''''''''
  have ho6'''''''''''''''''''''' := ho6'''''''''''''''''''''.below hb52
  clear ho6'''''''''''''''''''''
  have ho7'''''''''''''''''''''' := ho7'''''''''''''''''''''.below hb52
  clear ho7'''''''''''''''''''''
  have hq25''''''''''''' := hq25''''''''''''.below hb52
  clear hq25''''''''''''
  have hq31'''''''''' := hq31'''''''''.below hb52
  clear hq31'''''''''
  have hq33''''''''' := hq33''''''''.below hb52
  clear hq33''''''''
  have ho21''''''''''''''' := ho21''''''''''''''.below hb52
  clear ho21''''''''''''''
  have ho39'''''' := ho39'''''.below hb52
  clear ho39'''''
  have ho42''''' := ho42''''.below hb52
  clear ho42''''
  have ho43''''' := ho43''''.below hb52
  clear ho43''''
  obtain ⟨hc9x0, gc9x0⟩ := k9'''''''''''''''''''''.at_ 0 (x := .slice A6 (playB xs0).l.length d6) rfl
  obtain ⟨hc9x1, gc9x1⟩ := k9'''''''''''''''''''''.at_ 1 (x := .slice B6 (playB xs0).h.length e6) rfl
  obtain ⟨hc9x2, gc9x2⟩ := k9'''''''''''''''''''''.at_ 2 (x := .slice C6 (playB xs0).w.length f6) rfl
  obtain ⟨hc9x3, gc9x3⟩ := k9'''''''''''''''''''''.at_ 3 (x := .slice D6 (playB xs0).f.length g6) rfl
  obtain ⟨hc9x4, gc9x4⟩ := k9'''''''''''''''''''''.at_ 4 (x := .int .i64 (playB xs0).n) rfl
  have l9 := k9'''''''''''''''''''''.lt
  obtain ⟨hc16x0, gc16x0⟩ := k16''''''''''''''''''.at_ 0 (x := .slice A13 (playB xs0).l.length d13) rfl
  obtain ⟨hc16x1, gc16x1⟩ := k16''''''''''''''''''.at_ 1 (x := .slice B13 (playB xs0).h.length e13) rfl
  obtain ⟨hc16x2, gc16x2⟩ := k16''''''''''''''''''.at_ 2 (x := .slice C13 (playB xs0).w.length f13) rfl
  obtain ⟨hc16x3, gc16x3⟩ := k16''''''''''''''''''.at_ 3 (x := .slice D13 (playB xs0).f.length g13) rfl
  obtain ⟨hc16x4, gc16x4⟩ := k16''''''''''''''''''.at_ 4 (x := .int .i64 (playB xs0).n) rfl
  have l16 := k16''''''''''''''''''.lt
  obtain ⟨hc45x0, gc45x0⟩ := k45''''.at_ 0 (x := .slice A42 (playB xs0).l.length d42) rfl
  obtain ⟨hc45x1, gc45x1⟩ := k45''''.at_ 1 (x := .slice B42 (playB xs0).h.length e42) rfl
  obtain ⟨hc45x2, gc45x2⟩ := k45''''.at_ 2 (x := .slice C42 (playB xs0).w.length f42) rfl
  obtain ⟨hc45x3, gc45x3⟩ := k45''''.at_ 3 (x := .slice D42 (playB xs0).f.length g42) rfl
  obtain ⟨hc45x4, gc45x4⟩ := k45''''.at_ 4 (x := .int .i64 (playB xs0).n) rfl
  have l45 := k45''''.lt
  go_wp2_with fail
  go_ret
  exact ⟨rfl, hB'''''''''''''''''''''''''⟩
set_option maxRecDepth 100000 in
theorem lift_PlayCount (os : Os) (started : os.Started) (H : Type) (enc : TypeId × Value → H) :
    ReturnsInHanded {} Try.checked os 4 .any (Rows.fnExactPlayCountSpec.pre6 enc Try.prog Try.f4 Rows.fnExactPlayCountRow.domain false) (Rows.fnExactPlayCountSpec.post enc Try.prog Try.f4 false true false false) := by
  refine returnsInHanded_of_change (C := Try.checked) (by kernel_rfl) started (by kernel_rfl) Try.func4
    (ChangeSpec.witness6 (enc := enc) (C := Try.checked) false ⟨#[], #[.slice none 0 0], []⟩ 8 (by kernel_rfl) (by kernel_rfl) (by kernel_rfl) (by kernel_rfl)) ?_
  intro W base args ds gs before hval0 hW hcnd _
  have hval : ∀ (j : Nat) t v, Try.f4.params[j]? = some t → args[j]? = some v → Value.okWide Try.prog W .any base t v := hval0
  have hW' := hW
  obtain ⟨p, q, hA0, hV, rfl, hfz, hnd⟩ := hW
  have hA : DataW.TrodAll enc Try.prog W 0 (fun _ => true) true Try.f4.params.toList args.toList ds p := hA0
  rw [Try.params4] at hA hval
  obtain ⟨v0, vs0, d0, ds0, p0, q0, hargs, rfl, rfl, h0, r0⟩ := trodAll_cons hA
  obtain ⟨rfl, rfl, rfl⟩ := trodAll_nil r0
  obtain rfl : args = #[v0] := by cases args; simp_all
  obtain ⟨rfl, rfl⟩ := trodVars_none hV
  obtain ⟨c0, l0, e0, rfl⟩ := okWide_slice Try.underlying40 (hval 0 _ v0 rfl rfl)
  obtain ⟨fuel0, hf0⟩ := h0
  obtain ⟨xs0, hR0, hI0⟩ := read_o3s Try.underlying40 Try.underlying27 (by kernel_rfl) ⟨rfl, rfl, rfl⟩ (by decide +kernel) ⟨Try.underlying3, Try.underlying3, Try.underlying3⟩ (by simpa [Value.cells] using hf0)
  refine (walk_PlayCount _ xs0 W hR0).mono fun e W' ⟨he, hb⟩ => ?_
  subst he
  exact ⟨_, rfl, post_law (by kernel_rfl) rfl rfl (by kernel_rfl) Try.underlying4 (of_decide_eq_true (by kernel_rfl)) hW' hb⟩
theorem FnExactPlayCount_holds : Rows.FnExactPlayCountSaid :=
  OpenClaim.holds_of_wide 4 Try.f4 rfl rfl rfl rfl rfl rfl rfl ⟨rfl, rfl, rfl, rfl, rfl⟩ rfl rfl rfl rfl rfl (by kernel_rfl) Try.func4 (by kernel_rfl)
    (of_decide_eq_true (by kernel_rfl)) (by unfold Func.isWrapper; first | (rw [if_pos (by decide +kernel)]; kernel_rfl) | (rw [if_neg (by decide +kernel)]; exact ⟨rfl, rfl⟩))
    (fun os started H enc _ => lift_PlayCount os started H enc)
#print axioms FnExactPlayCount_holds
end Go.Proofs.Ytiamkgkhamnaeaa
