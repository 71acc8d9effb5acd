/- FnExactZeroLeft answers true at every input: ZeroLeft answers as its model does, leaves its arguments alone and owns its answer. Conditions: none. -/
import Derived.Test.YtiamkgkhamnaeaaLaw
import Derived.Test.YtiamkgkhamnaeaaLaw9
import Derived.Test.YtiamkgkhamnaeaaMN
import Derived.Test.YtiamkgkhamnaeaaNC2
import Derived.Deep.RegionHeld3
namespace Go.Proofs.Ytiamkgkhamnaeaa
set_option maxRecDepth 20000
set_option linter.unusedSimpArgs false
set_option linter.unusedVariables false
open Go.ChangeShapes Go.WideShapes Go.ChangeAt Go.RowKit
set_option linter.unusedVariables false
set_option maxHeartbeats 4000000 in
theorem walk_ZeroLeft (v0 u0 s0 r0 : Value) (x0 : Bn) (w : World) (hA0 : RdABn w v0 u0 s0 r0 x0) (hS0 : BnR x0) :
    Calls Try.prog 6 #[.agg #[v0, u0, s0, r0, .int .i64 x0.n]] w fun e w' => e = .returned (.bool true) ∧ Below w.heap.size w w' := by
  obtain ⟨Aa0, da0, Ba0, ea0, Ca0, fa0, Da0, ga0, rfl, rfl, rfl, rfl⟩ := hA0.slices
  have HAaB := Lib.hid hA0
  clear hA0
  have hq : (zeroF x0).length ≤ x0.w.length := by unfold zeroF; split; exact List.length_filter_le _ _; simp
  have hqc : cntBn x0 ≤ 2 * szBn x0 := by unfold cntBn szBn; omega
  have hqw : x0.w.length ≤ szBn x0 := by unfold szBn; omega
  have hB := Below.refl w.heap.size w
  go_enter Try.func6, Try.ntmps6
  go_wp2_with fail
  have hB' := hB.alloc hB.size (.cells #[.slice Aa0 x0.l.length da0, .slice Ba0 x0.h.length ea0, .slice Ca0 x0.w.length fa0, .slice Da0 x0.f.length ga0, .int .i64 x0.n] 25)
  clear hB
  have k1 := Bk.new w #[.slice Aa0 x0.l.length da0, .slice Ba0 x0.h.length ea0, .slice Ca0 x0.w.length fa0, .slice Da0 x0.f.length ga0, .int .i64 x0.n] 25
  refine (szBench _ _ _ _ x0 (1048576) _ (HAaB.out.below hB') (by omega) (by omega)).mono ?_
  rintro e w2 ⟨rfl, hb2⟩
  have sz3 := hb2.size
  try simp only [World.size_alloc] at sz3
  have hB'' := hB'.trans (hb2.mono hB'.size)
  clear hB'
  have k1' := k1.below hb2 k1.lt
  clear k1
  by_cases hn2 : (1048576 : Int) - (szBn x0) < 0
  · rw [show szF (szBn x0) (1048576) = -1 by unfold szF; rw [if_pos hn2]]
    go_wp2_with fail
    go_ret
    exact ⟨rfl, hB''⟩
  rw [show szF (szBn x0) (1048576) = 1048576 - (szBn x0) by unfold szF; rw [if_neg hn2]]
  obtain ⟨hc1x0, gc1x0⟩ := k1'.at_ 0 (x := .slice Aa0 x0.l.length da0) rfl
  obtain ⟨hc1x1, gc1x1⟩ := k1'.at_ 1 (x := .slice Ba0 x0.h.length ea0) rfl
  obtain ⟨hc1x2, gc1x2⟩ := k1'.at_ 2 (x := .slice Ca0 x0.w.length fa0) rfl
  obtain ⟨hc1x3, gc1x3⟩ := k1'.at_ 3 (x := .slice Da0 x0.f.length ga0) rfl
  obtain ⟨hc1x4, gc1x4⟩ := k1'.at_ 4 (x := .int .i64 x0.n) rfl
  have l1 := k1'.lt
  go_wp2_with fail
  refine (toBench _ _ _ _ x0 _ (HAaB.out.below hB'') (by omega)).mono ?_
  rintro e w4 ⟨v4x0, v4x1, v4x2, v4x3, bs4, rfl, ho4, lo4, hb4⟩
  clear hc1x0 gc1x0 hc1x1 gc1x1 hc1x2 gc1x2 hc1x3 gc1x3 hc1x4 gc1x4 l1
  have sz5 := hb4.size
  try simp only [World.size_alloc] at sz5
  have hB''' := hB''.trans (hb4.mono hB''.size)
  clear hB''
  have k1'' := k1'.below hb4 k1'.lt
  clear k1'
  have hi4 := ho4.lt
  try simp only [World.size_alloc] at lo4
  obtain ⟨A4, d4, B4, e4, C4, f4, D4, g4, rfl, rfl, rfl, rfl⟩ := ho4.slices
  obtain ⟨hc1x0, gc1x0⟩ := k1''.at_ 0 (x := .slice Aa0 x0.l.length da0) rfl
  obtain ⟨hc1x1, gc1x1⟩ := k1''.at_ 1 (x := .slice Ba0 x0.h.length ea0) rfl
  obtain ⟨hc1x2, gc1x2⟩ := k1''.at_ 2 (x := .slice Ca0 x0.w.length fa0) rfl
  obtain ⟨hc1x3, gc1x3⟩ := k1''.at_ 3 (x := .slice Da0 x0.f.length ga0) rfl
  obtain ⟨hc1x4, gc1x4⟩ := k1''.at_ 4 (x := .int .i64 x0.n) rfl
  have l1 := k1''.lt
  go_wp2_with fail
  refine (spec_ZeroLeft _ _ _ _ x0 _ ho4.rd (by omega)).mono ?_
  rintro e w6 ⟨v7x0, bs7, rfl, ho7, lo7, hb7⟩
  clear hc1x0 gc1x0 hc1x1 gc1x1 hc1x2 gc1x2 hc1x3 gc1x3 hc1x4 gc1x4 l1
  have sz8 := hb7.size
  try simp only [World.size_alloc] at sz8
  have hB'''' := hB'''.trans (hb7.mono hB'''.size)
  clear hB'''
  have k1''' := k1''.below hb7 k1''.lt
  clear k1''
  have ho4' := ho4.below hb7
  clear ho4
  have hi7 := ho7.lt
  try simp only [World.size_alloc] at lo7
  obtain ⟨A7, d7, rfl, -, -⟩ := ho7.slice
  obtain ⟨hc1x0, gc1x0⟩ := k1'''.at_ 0 (x := .slice Aa0 x0.l.length da0) rfl
  obtain ⟨hc1x1, gc1x1⟩ := k1'''.at_ 1 (x := .slice Ba0 x0.h.length ea0) rfl
  obtain ⟨hc1x2, gc1x2⟩ := k1'''.at_ 2 (x := .slice Ca0 x0.w.length fa0) rfl
  obtain ⟨hc1x3, gc1x3⟩ := k1'''.at_ 3 (x := .slice Da0 x0.f.length ga0) rfl
  obtain ⟨hc1x4, gc1x4⟩ := k1'''.at_ 4 (x := .int .i64 x0.n) rfl
  have l1 := k1'''.lt
  go_wp2_with fail
  refine (toBench _ _ _ _ x0 _ (HAaB.out.below hB'''') (by omega)).mono ?_
  rintro e w9 ⟨v9x0, v9x1, v9x2, v9x3, bs9, rfl, ho9, lo9, hb9⟩
  clear hc1x0 gc1x0 hc1x1 gc1x1 hc1x2 gc1x2 hc1x3 gc1x3 hc1x4 gc1x4 l1
  have sz10 := hb9.size
  try simp only [World.size_alloc] at sz10
  have hB''''' := hB''''.trans (hb9.mono hB''''.size)
  clear hB''''
  have k1'''' := k1'''.below hb9 k1'''.lt
  clear k1'''
  have ho4'' := ho4'.below hb9
  clear ho4'
  have ho7' := ho7.below hb9
  clear ho7
  have hi9 := ho9.lt
  try simp only [World.size_alloc] at lo9
  obtain ⟨A9, d9, B9, e9, C9, f9, D9, g9, rfl, rfl, rfl, rfl⟩ := ho9.slices
  obtain ⟨hc1x0, gc1x0⟩ := k1''''.at_ 0 (x := .slice Aa0 x0.l.length da0) rfl
  obtain ⟨hc1x1, gc1x1⟩ := k1''''.at_ 1 (x := .slice Ba0 x0.h.length ea0) rfl
  obtain ⟨hc1x2, gc1x2⟩ := k1''''.at_ 2 (x := .slice Ca0 x0.w.length fa0) rfl
  obtain ⟨hc1x3, gc1x3⟩ := k1''''.at_ 3 (x := .slice Da0 x0.f.length ga0) rfl
  obtain ⟨hc1x4, gc1x4⟩ := k1''''.at_ 4 (x := .int .i64 x0.n) rfl
  have l1 := k1''''.lt
  go_wp2_with fail
  clear hc1x0 gc1x0 hc1x1 gc1x1 hc1x2 gc1x2 hc1x3 gc1x3 hc1x4 gc1x4 l1
  have k1''''' := k1''''.alloc (.cells #[.slice A9 x0.l.length d9, .slice B9 x0.h.length e9, .slice C9 x0.w.length f9, .slice D9 x0.f.length g9, .int .i64 x0.n] 31)
  clear k1''''
  have ho4''' := ho4''.below ((Below.refl _ _).alloc (Nat.le_refl _) (.cells #[.slice A9 x0.l.length d9, .slice B9 x0.h.length e9, .slice C9 x0.w.length f9, .slice D9 x0.f.length g9, .int .i64 x0.n] 31))
  clear ho4''
  have ho7'' := ho7'.below ((Below.refl _ _).alloc (Nat.le_refl _) (.cells #[.slice A9 x0.l.length d9, .slice B9 x0.h.length e9, .slice C9 x0.w.length f9, .slice D9 x0.f.length g9, .int .i64 x0.n] 31))
  clear ho7'
  have ho9' := ho9.below ((Below.refl _ _).alloc (Nat.le_refl _) (.cells #[.slice A9 x0.l.length d9, .slice B9 x0.h.length e9, .slice C9 x0.w.length f9, .slice D9 x0.f.length g9, .int .i64 x0.n] 31))
  clear ho9
  have hB'''''' := hB'''''.alloc hB'''''.size (.cells #[.slice A9 x0.l.length d9, .slice B9 x0.h.length e9, .slice C9 x0.w.length f9, .slice D9 x0.f.length g9, .int .i64 x0.n] 31)
  clear hB'''''
  have k11 := Bk.new w9 #[.slice A9 x0.l.length d9, .slice B9 x0.h.length e9, .slice C9 x0.w.length f9, .slice D9 x0.f.length g9, .int .i64 x0.n] 31
  refine (impl_ZeroLeft _ _ _ _ x0 _ ho9'.rd hS0 (by omega)).mono ?_
  rintro e w12 ⟨v13x0, bs13, rfl, ho13, lo13, hb13⟩
  have sz14 := hb13.size
  try simp only [World.size_alloc] at sz14
  have hB''''''' := hB''''''.trans (hb13.mono hB''''''.size)
  clear hB''''''
  have k1'''''' := k1'''''.below hb13 k1'''''.lt
  clear k1'''''
  have k11' := k11.below hb13 k11.lt
  clear k11
  have ho4'''' := ho4'''.below hb13
  clear ho4'''
  have ho7''' := ho7''.below hb13
  clear ho7''
  have ho9'' := ho9'.below hb13
  clear ho9'
  have hi13 := ho13.lt
  try simp only [World.size_alloc] at lo13
  obtain ⟨A13, d13, rfl, -, -⟩ := ho13.slice
  obtain ⟨hc1x0, gc1x0⟩ := k1''''''.at_ 0 (x := .slice Aa0 x0.l.length da0) rfl
  obtain ⟨hc1x1, gc1x1⟩ := k1''''''.at_ 1 (x := .slice Ba0 x0.h.length ea0) rfl
  obtain ⟨hc1x2, gc1x2⟩ := k1''''''.at_ 2 (x := .slice Ca0 x0.w.length fa0) rfl
  obtain ⟨hc1x3, gc1x3⟩ := k1''''''.at_ 3 (x := .slice Da0 x0.f.length ga0) rfl
  obtain ⟨hc1x4, gc1x4⟩ := k1''''''.at_ 4 (x := .int .i64 x0.n) rfl
  have l1 := k1''''''.lt
  obtain ⟨hc11x0, gc11x0⟩ := k11'.at_ 0 (x := .slice A9 x0.l.length d9) rfl
  obtain ⟨hc11x1, gc11x1⟩ := k11'.at_ 1 (x := .slice B9 x0.h.length e9) rfl
  obtain ⟨hc11x2, gc11x2⟩ := k11'.at_ 2 (x := .slice C9 x0.w.length f9) rfl
  obtain ⟨hc11x3, gc11x3⟩ := k11'.at_ 3 (x := .slice D9 x0.f.length g9) rfl
  obtain ⟨hc11x4, gc11x4⟩ := k11'.at_ 4 (x := .int .i64 x0.n) rfl
  have l11 := k11'.lt
  go_wp2_with fail
  refine (eqIntSB _ _ ((zeroF x0)) ((zeroF x0)) _ ho13.rd ho7'''.rd).mono ?_
  rintro e w15 ⟨rfl, hb15⟩
  rw [decide_eq_true rfl]
  clear hc1x0 gc1x0 hc1x1 gc1x1 hc1x2 gc1x2 hc1x3 gc1x3 hc1x4 gc1x4 l1 hc11x0 gc11x0 hc11x1 gc11x1 hc11x2 gc11x2 hc11x3 gc11x3 hc11x4 gc11x4 l11
  have sz16 := hb15.size
  try simp only [World.size_alloc] at sz16
  have hB'''''''' := hB'''''''.trans (hb15.mono hB'''''''.size)
  clear hB'''''''
  have k1''''''' := k1''''''.below hb15 k1''''''.lt
  clear k1''''''
  have k11'' := k11'.below hb15 k11'.lt
  clear k11'
  have ho4''''' := ho4''''.below hb15
  clear ho4''''
  have ho7'''' := ho7'''.below hb15
  clear ho7'''
  have ho9''' := ho9''.below hb15
  clear ho9''
  have ho13' := ho13.below hb15
  clear ho13
  obtain ⟨hc1x0, gc1x0⟩ := k1'''''''.at_ 0 (x := .slice Aa0 x0.l.length da0) rfl
  obtain ⟨hc1x1, gc1x1⟩ := k1'''''''.at_ 1 (x := .slice Ba0 x0.h.length ea0) rfl
  obtain ⟨hc1x2, gc1x2⟩ := k1'''''''.at_ 2 (x := .slice Ca0 x0.w.length fa0) rfl
  obtain ⟨hc1x3, gc1x3⟩ := k1'''''''.at_ 3 (x := .slice Da0 x0.f.length ga0) rfl
  obtain ⟨hc1x4, gc1x4⟩ := k1'''''''.at_ 4 (x := .int .i64 x0.n) rfl
  have l1 := k1'''''''.lt
  obtain ⟨hc11x0, gc11x0⟩ := k11''.at_ 0 (x := .slice A9 x0.l.length d9) rfl
  obtain ⟨hc11x1, gc11x1⟩ := k11''.at_ 1 (x := .slice B9 x0.h.length e9) rfl
  obtain ⟨hc11x2, gc11x2⟩ := k11''.at_ 2 (x := .slice C9 x0.w.length f9) rfl
  obtain ⟨hc11x3, gc11x3⟩ := k11''.at_ 3 (x := .slice D9 x0.f.length g9) rfl
  obtain ⟨hc11x4, gc11x4⟩ := k11''.at_ 4 (x := .int .i64 x0.n) rfl
  have l11 := k11''.lt
  go_wp2_with fail
  clear hc1x0 gc1x0 hc1x1 gc1x1 hc1x2 gc1x2 hc1x3 gc1x3 hc1x4 gc1x4 l1 hc11x0 gc11x0 hc11x1 gc11x1 hc11x2 gc11x2 hc11x3 gc11x3 hc11x4 gc11x4 l11
  obtain ⟨hc1x0, gc1x0⟩ := k1'''''''.at_ 0 (x := .slice Aa0 x0.l.length da0) rfl
  obtain ⟨hc1x1, gc1x1⟩ := k1'''''''.at_ 1 (x := .slice Ba0 x0.h.length ea0) rfl
  obtain ⟨hc1x2, gc1x2⟩ := k1'''''''.at_ 2 (x := .slice Ca0 x0.w.length fa0) rfl
  obtain ⟨hc1x3, gc1x3⟩ := k1'''''''.at_ 3 (x := .slice Da0 x0.f.length ga0) rfl
  obtain ⟨hc1x4, gc1x4⟩ := k1'''''''.at_ 4 (x := .int .i64 x0.n) rfl
  have l1 := k1'''''''.lt
  obtain ⟨hc11x0, gc11x0⟩ := k11''.at_ 0 (x := .slice A9 x0.l.length d9) rfl
  obtain ⟨hc11x1, gc11x1⟩ := k11''.at_ 1 (x := .slice B9 x0.h.length e9) rfl
  obtain ⟨hc11x2, gc11x2⟩ := k11''.at_ 2 (x := .slice C9 x0.w.length f9) rfl
  obtain ⟨hc11x3, gc11x3⟩ := k11''.at_ 3 (x := .slice D9 x0.f.length g9) rfl
  obtain ⟨hc11x4, gc11x4⟩ := k11''.at_ 4 (x := .int .i64 x0.n) rfl
  have l11 := k11''.lt
  have HS18 : Hid (∀ W : World, Below w15.heap.size w15 W → Below w15.heap.size w15 W ∧ W.cell? ⟨w9.heap.size, 0, none⟩ = some (.slice A9 x0.l.length d9) ∧ W.cell? ⟨w9.heap.size, 1, none⟩ = some (.slice B9 x0.h.length e9) ∧ W.cell? ⟨w9.heap.size, 2, none⟩ = some (.slice C9 x0.w.length f9) ∧ W.cell? ⟨w9.heap.size, 3, none⟩ = some (.slice D9 x0.f.length g9) ∧ W.cell? ⟨w9.heap.size, 4, none⟩ = some (.int .i64 x0.n) ∧ W.cell? ⟨w.heap.size, 0, none⟩ = some (.slice Aa0 x0.l.length da0) ∧ W.cell? ⟨w.heap.size, 1, none⟩ = some (.slice Ba0 x0.h.length ea0) ∧ W.cell? ⟨w.heap.size, 2, none⟩ = some (.slice Ca0 x0.w.length fa0) ∧ W.cell? ⟨w.heap.size, 3, none⟩ = some (.slice Da0 x0.f.length ga0) ∧ W.cell? ⟨w.heap.size, 4, none⟩ = some (.int .i64 x0.n)) := Lib.hid fun W hW => ⟨hW, (hW.cell (p := ⟨w9.heap.size, 0, none⟩) k11''.lt).trans hc11x0, (hW.cell (p := ⟨w9.heap.size, 1, none⟩) k11''.lt).trans hc11x1, (hW.cell (p := ⟨w9.heap.size, 2, none⟩) k11''.lt).trans hc11x2, (hW.cell (p := ⟨w9.heap.size, 3, none⟩) k11''.lt).trans hc11x3, (hW.cell (p := ⟨w9.heap.size, 4, none⟩) k11''.lt).trans hc11x4, (hW.cell (p := ⟨w.heap.size, 0, none⟩) k1'''''''.lt).trans hc1x0, (hW.cell (p := ⟨w.heap.size, 1, none⟩) k1'''''''.lt).trans hc1x1, (hW.cell (p := ⟨w.heap.size, 2, none⟩) k1'''''''.lt).trans hc1x2, (hW.cell (p := ⟨w.heap.size, 3, none⟩) k1'''''''.lt).trans hc1x3, (hW.cell (p := ⟨w.heap.size, 4, none⟩) k1'''''''.lt).trans hc1x4⟩
  have HhB________ := Lib.hid hB''''''''
  have Hho4_____ := Lib.hid ho4'''''
  have Hho7____ := Lib.hid ho7''''
  have Hho9___ := Lib.hid ho9'''
  have Hho13_ := Lib.hid ho13'
  go_region_held3 (fun W => Below w15.heap.size w15 W ∧ W.cell? ⟨w9.heap.size, 0, none⟩ = some (.slice A9 x0.l.length d9) ∧ W.cell? ⟨w9.heap.size, 1, none⟩ = some (.slice B9 x0.h.length e9) ∧ W.cell? ⟨w9.heap.size, 2, none⟩ = some (.slice C9 x0.w.length f9) ∧ W.cell? ⟨w9.heap.size, 3, none⟩ = some (.slice D9 x0.f.length g9) ∧ W.cell? ⟨w9.heap.size, 4, none⟩ = some (.int .i64 x0.n) ∧ W.cell? ⟨w.heap.size, 0, none⟩ = some (.slice Aa0 x0.l.length da0) ∧ W.cell? ⟨w.heap.size, 1, none⟩ = some (.slice Ba0 x0.h.length ea0) ∧ W.cell? ⟨w.heap.size, 2, none⟩ = some (.slice Ca0 x0.w.length fa0) ∧ W.cell? ⟨w.heap.size, 3, none⟩ = some (.slice Da0 x0.f.length ga0) ∧ W.cell? ⟨w.heap.size, 4, none⟩ = some (.int .i64 x0.n)) (first | (exact HS18.out _ (Below.refl _ _).drew) | (exact HS18.out _ (by assumption)))
    (first
      | (go_at_call 11; have hS := ‹Below w15.heap.size w15 _ ∧ _›.1; refine (toBench _ _ _ _ x0 _ (HAaB.out.below (HhB________.out.trans (hS.mono HhB________.out.size))) (by omega)).mono ?_; rintro e wa17 ⟨vv0, vv1, vv2, vv3, bsw, rfl, how, low, hbw17⟩; have HO17 := Lib.hid how; clear how low; have hS18x0 := hS.trans (hbw17.mono hS.size); clear hS)
      | (go_at_call 14; have hS := ‹Below w15.heap.size w15 _ ∧ _›.1; refine (eqBench _ _ _ _ _ _ _ _ (x0) (x0) _ (Hho9___.out.below hS).rd HO17.out.rd).mono ?_; rintro e w17 ⟨rfl, hbe17⟩; have hS18x1 := hS.trans (hbe17.mono hS.size); clear hS))
  have hS18 := ‹Below w15.heap.size w15 _ ∧ _›.1
  clear HS18 HhB________ Hho4_____ Hho7____ Hho9___ Hho13_
  clear hc1x0 gc1x0 hc1x1 gc1x1 hc1x2 gc1x2 hc1x3 gc1x3 hc1x4 gc1x4 l1 hc11x0 gc11x0 hc11x1 gc11x1 hc11x2 gc11x2 hc11x3 gc11x3 hc11x4 gc11x4 l11
  have sz19 := hS18.size
  try simp only [World.size_alloc] at sz19
  have hB''''''''' := hB''''''''.trans (hS18.mono hB''''''''.size)
  clear hB''''''''
  have k1'''''''' := k1'''''''.below hS18 k1'''''''.lt
  clear k1'''''''
  have k11''' := k11''.below hS18 k11''.lt
  clear k11''
  have ho4'''''' := ho4'''''.below hS18
  clear ho4'''''
  have ho7''''' := ho7''''.below hS18
  clear ho7''''
  have ho9'''' := ho9'''.below hS18
  clear ho9'''
  have ho13'' := ho13'.below hS18
  clear ho13'
  clear hS18
  clear HO17
  obtain ⟨hc1x0, gc1x0⟩ := k1''''''''.at_ 0 (x := .slice Aa0 x0.l.length da0) rfl
  obtain ⟨hc1x1, gc1x1⟩ := k1''''''''.at_ 1 (x := .slice Ba0 x0.h.length ea0) rfl
  obtain ⟨hc1x2, gc1x2⟩ := k1''''''''.at_ 2 (x := .slice Ca0 x0.w.length fa0) rfl
  obtain ⟨hc1x3, gc1x3⟩ := k1''''''''.at_ 3 (x := .slice Da0 x0.f.length ga0) rfl
  obtain ⟨hc1x4, gc1x4⟩ := k1''''''''.at_ 4 (x := .int .i64 x0.n) rfl
  have l1 := k1''''''''.lt
  obtain ⟨hc11x0, gc11x0⟩ := k11'''.at_ 0 (x := .slice A9 x0.l.length d9) rfl
  obtain ⟨hc11x1, gc11x1⟩ := k11'''.at_ 1 (x := .slice B9 x0.h.length e9) rfl
  obtain ⟨hc11x2, gc11x2⟩ := k11'''.at_ 2 (x := .slice C9 x0.w.length f9) rfl
  obtain ⟨hc11x3, gc11x3⟩ := k11'''.at_ 3 (x := .slice D9 x0.f.length g9) rfl
  obtain ⟨hc11x4, gc11x4⟩ := k11'''.at_ 4 (x := .int .i64 x0.n) rfl
  have l11 := k11'''.lt
  go_wp2_with fail
  refine (markBench _ _ _ _ x0 bs9 (1) _ ho9'''' (by omega) (by omega) (by omega)).mono ?_
  rintro e w20 ⟨rfl, hq20, hon20⟩
  clear hc1x0 gc1x0 hc1x1 gc1x1 hc1x2 gc1x2 hc1x3 gc1x3 hc1x4 gc1x4 l1 hc11x0 gc11x0 hc11x1 gc11x1 hc11x2 gc11x2 hc11x3 gc11x3 hc11x4 gc11x4 l11
  have sz21 := hon20.size
  try simp only [World.size_alloc] at sz21
  have hB'''''''''' := hB'''''''''.trans (hon20.below hB'''''''''.size (fun b hb => by have := lo9 b hb; omega))
  clear hB'''''''''
  have k1''''''''' := k1''''''''.only hon20 (fun hm => by have := lo9 _ hm; have := hi9 _ hm; omega)
  clear k1''''''''
  have k11'''' := k11'''.only hon20 (fun hm => by have := lo9 _ hm; have := hi9 _ hm; omega)
  clear k11'''
  have ho4''''''' := ho4''''''.only hon20 (fun b hb hm => by have := lo9 b hm; have := hi9 b hm; have := lo4 b hb; have := hi4 b hb; omega)
  clear ho4''''''
  have ho7'''''' := ho7'''''.only hon20 (fun b hb hm => by have := lo9 b hm; have := hi9 b hm; have := lo7 b hb; have := hi7 b hb; omega)
  clear ho7'''''
  have ho13''' := ho13''.only hon20 (fun b hb hm => by have := lo9 b hm; have := hi9 b hm; have := lo13 b hb; have := hi13 b hb; omega)
  clear ho13''
  obtain ⟨hc1x0, gc1x0⟩ := k1'''''''''.at_ 0 (x := .slice Aa0 x0.l.length da0) rfl
  obtain ⟨hc1x1, gc1x1⟩ := k1'''''''''.at_ 1 (x := .slice Ba0 x0.h.length ea0) rfl
  obtain ⟨hc1x2, gc1x2⟩ := k1'''''''''.at_ 2 (x := .slice Ca0 x0.w.length fa0) rfl
  obtain ⟨hc1x3, gc1x3⟩ := k1'''''''''.at_ 3 (x := .slice Da0 x0.f.length ga0) rfl
  obtain ⟨hc1x4, gc1x4⟩ := k1'''''''''.at_ 4 (x := .int .i64 x0.n) rfl
  have l1 := k1'''''''''.lt
  obtain ⟨hc11x0, gc11x0⟩ := k11''''.at_ 0 (x := .slice A9 x0.l.length d9) rfl
  obtain ⟨hc11x1, gc11x1⟩ := k11''''.at_ 1 (x := .slice B9 x0.h.length e9) rfl
  obtain ⟨hc11x2, gc11x2⟩ := k11''''.at_ 2 (x := .slice C9 x0.w.length f9) rfl
  obtain ⟨hc11x3, gc11x3⟩ := k11''''.at_ 3 (x := .slice D9 x0.f.length g9) rfl
  obtain ⟨hc11x4, gc11x4⟩ := k11''''.at_ 4 (x := .int .i64 x0.n) rfl
  have l11 := k11''''.lt
  go_wp2_with fail
  refine (eqIntSB _ _ ((zeroF x0)) ((zeroF x0)) _ ho13'''.rd ho7''''''.rd).mono ?_
  rintro e w22 ⟨rfl, hb22⟩
  rw [decide_eq_true rfl]
  clear hc1x0 gc1x0 hc1x1 gc1x1 hc1x2 gc1x2 hc1x3 gc1x3 hc1x4 gc1x4 l1 hc11x0 gc11x0 hc11x1 gc11x1 hc11x2 gc11x2 hc11x3 gc11x3 hc11x4 gc11x4 l11
  have sz23 := hb22.size
  try simp only [World.size_alloc] at sz23
  have hB''''''''''' := hB''''''''''.trans (hb22.mono hB''''''''''.size)
  clear hB''''''''''
  have k1'''''''''' := k1'''''''''.below hb22 k1'''''''''.lt
  clear k1'''''''''
  have k11''''' := k11''''.below hb22 k11''''.lt
  clear k11''''
  have ho4'''''''' := ho4'''''''.below hb22
  clear ho4'''''''
  have ho7''''''' := ho7''''''.below hb22
  clear ho7''''''
  have hq20' := hq20.below hb22
  clear hq20
  have ho13'''' := ho13'''.below hb22
  clear ho13'''
  obtain ⟨hc1x0, gc1x0⟩ := k1''''''''''.at_ 0 (x := .slice Aa0 x0.l.length da0) rfl
  obtain ⟨hc1x1, gc1x1⟩ := k1''''''''''.at_ 1 (x := .slice Ba0 x0.h.length ea0) rfl
  obtain ⟨hc1x2, gc1x2⟩ := k1''''''''''.at_ 2 (x := .slice Ca0 x0.w.length fa0) rfl
  obtain ⟨hc1x3, gc1x3⟩ := k1''''''''''.at_ 3 (x := .slice Da0 x0.f.length ga0) rfl
  obtain ⟨hc1x4, gc1x4⟩ := k1''''''''''.at_ 4 (x := .int .i64 x0.n) rfl
  have l1 := k1''''''''''.lt
  obtain ⟨hc11x0, gc11x0⟩ := k11'''''.at_ 0 (x := .slice A9 x0.l.length d9) rfl
  obtain ⟨hc11x1, gc11x1⟩ := k11'''''.at_ 1 (x := .slice B9 x0.h.length e9) rfl
  obtain ⟨hc11x2, gc11x2⟩ := k11'''''.at_ 2 (x := .slice C9 x0.w.length f9) rfl
  obtain ⟨hc11x3, gc11x3⟩ := k11'''''.at_ 3 (x := .slice D9 x0.f.length g9) rfl
  obtain ⟨hc11x4, gc11x4⟩ := k11'''''.at_ 4 (x := .int .i64 x0.n) rfl
  have l11 := k11'''''.lt
  go_wp2_with fail
  refine (markIntS _ (zeroF x0) bs13 (1) _ ho13'''' (by omega) (by omega) (by omega)).mono ?_
  rintro e w24 ⟨rfl, hq24, hon24⟩
  clear hc1x0 gc1x0 hc1x1 gc1x1 hc1x2 gc1x2 hc1x3 gc1x3 hc1x4 gc1x4 l1 hc11x0 gc11x0 hc11x1 gc11x1 hc11x2 gc11x2 hc11x3 gc11x3 hc11x4 gc11x4 l11
  have sz25 := hon24.size
  try simp only [World.size_alloc] at sz25
  have hB'''''''''''' := hB'''''''''''.trans (hon24.below hB'''''''''''.size (fun b hb => by have := lo13 b hb; omega))
  clear hB'''''''''''
  have k1''''''''''' := k1''''''''''.only hon24 (fun hm => by have := lo13 _ hm; have := hi13 _ hm; omega)
  clear k1''''''''''
  have k11'''''' := k11'''''.only hon24 (fun hm => by have := lo13 _ hm; have := hi13 _ hm; omega)
  clear k11'''''
  have ho4''''''''' := ho4''''''''.only hon24 (fun b hb hm => by have := lo13 b hm; have := hi13 b hm; have := lo4 b hb; have := hi4 b hb; omega)
  clear ho4''''''''
  have ho7'''''''' := ho7'''''''.only hon24 (fun b hb hm => by have := lo13 b hm; have := hi13 b hm; have := lo7 b hb; have := hi7 b hb; omega)
  clear ho7'''''''
  have hq20'' := hq20'.only hon24 (fun b hb hm => by have := lo13 b hm; have := hi13 b hm; have := lo9 b hb; have := hi9 b hb; omega)
  clear hq20'
  obtain ⟨hc1x0, gc1x0⟩ := k1'''''''''''.at_ 0 (x := .slice Aa0 x0.l.length da0) rfl
  obtain ⟨hc1x1, gc1x1⟩ := k1'''''''''''.at_ 1 (x := .slice Ba0 x0.h.length ea0) rfl
  obtain ⟨hc1x2, gc1x2⟩ := k1'''''''''''.at_ 2 (x := .slice Ca0 x0.w.length fa0) rfl
  obtain ⟨hc1x3, gc1x3⟩ := k1'''''''''''.at_ 3 (x := .slice Da0 x0.f.length ga0) rfl
  obtain ⟨hc1x4, gc1x4⟩ := k1'''''''''''.at_ 4 (x := .int .i64 x0.n) rfl
  have l1 := k1'''''''''''.lt
  obtain ⟨hc11x0, gc11x0⟩ := k11''''''.at_ 0 (x := .slice A9 x0.l.length d9) rfl
  obtain ⟨hc11x1, gc11x1⟩ := k11''''''.at_ 1 (x := .slice B9 x0.h.length e9) rfl
  obtain ⟨hc11x2, gc11x2⟩ := k11''''''.at_ 2 (x := .slice C9 x0.w.length f9) rfl
  obtain ⟨hc11x3, gc11x3⟩ := k11''''''.at_ 3 (x := .slice D9 x0.f.length g9) rfl
  obtain ⟨hc11x4, gc11x4⟩ := k11''''''.at_ 4 (x := .int .i64 x0.n) rfl
  have l11 := k11''''''.lt
  go_wp2_with fail
  refine (heldIntSB _ (zeroF x0).length (1) _ hq24.rd (by omega) (by omega) (by omega)).mono ?_
  rintro e w26 ⟨rfl, hb26⟩
  clear hc1x0 gc1x0 hc1x1 gc1x1 hc1x2 gc1x2 hc1x3 gc1x3 hc1x4 gc1x4 l1 hc11x0 gc11x0 hc11x1 gc11x1 hc11x2 gc11x2 hc11x3 gc11x3 hc11x4 gc11x4 l11
  have sz27 := hb26.size
  try simp only [World.size_alloc] at sz27
  have hB''''''''''''' := hB''''''''''''.trans (hb26.mono hB''''''''''''.size)
  clear hB''''''''''''
  have k1'''''''''''' := k1'''''''''''.below hb26 k1'''''''''''.lt
  clear k1'''''''''''
  have k11''''''' := k11''''''.below hb26 k11''''''.lt
  clear k11''''''
  have ho4'''''''''' := ho4'''''''''.below hb26
  clear ho4'''''''''
  have ho7''''''''' := ho7''''''''.below hb26
  clear ho7''''''''
  have hq20''' := hq20''.below hb26
  clear hq20''
  have hq24' := hq24.below hb26
  clear hq24
  obtain ⟨hc1x0, gc1x0⟩ := k1''''''''''''.at_ 0 (x := .slice Aa0 x0.l.length da0) rfl
  obtain ⟨hc1x1, gc1x1⟩ := k1''''''''''''.at_ 1 (x := .slice Ba0 x0.h.length ea0) rfl
  obtain ⟨hc1x2, gc1x2⟩ := k1''''''''''''.at_ 2 (x := .slice Ca0 x0.w.length fa0) rfl
  obtain ⟨hc1x3, gc1x3⟩ := k1''''''''''''.at_ 3 (x := .slice Da0 x0.f.length ga0) rfl
  obtain ⟨hc1x4, gc1x4⟩ := k1''''''''''''.at_ 4 (x := .int .i64 x0.n) rfl
  have l1 := k1''''''''''''.lt
  obtain ⟨hc11x0, gc11x0⟩ := k11'''''''.at_ 0 (x := .slice A9 x0.l.length d9) rfl
  obtain ⟨hc11x1, gc11x1⟩ := k11'''''''.at_ 1 (x := .slice B9 x0.h.length e9) rfl
  obtain ⟨hc11x2, gc11x2⟩ := k11'''''''.at_ 2 (x := .slice C9 x0.w.length f9) rfl
  obtain ⟨hc11x3, gc11x3⟩ := k11'''''''.at_ 3 (x := .slice D9 x0.f.length g9) rfl
  obtain ⟨hc11x4, gc11x4⟩ := k11'''''''.at_ 4 (x := .int .i64 x0.n) rfl
  have l11 := k11'''''''.lt
  go_wp2_with fail
  refine (toBench _ _ _ _ x0 _ (HAaB.out.below hB''''''''''''') (by omega)).mono ?_
  rintro e w28 ⟨v28x0, v28x1, v28x2, v28x3, bs28, rfl, ho28, lo28, hb28⟩
  clear hc1x0 gc1x0 hc1x1 gc1x1 hc1x2 gc1x2 hc1x3 gc1x3 hc1x4 gc1x4 l1 hc11x0 gc11x0 hc11x1 gc11x1 hc11x2 gc11x2 hc11x3 gc11x3 hc11x4 gc11x4 l11
  have sz29 := hb28.size
  try simp only [World.size_alloc] at sz29
  have hB'''''''''''''' := hB'''''''''''''.trans (hb28.mono hB'''''''''''''.size)
  clear hB'''''''''''''
  have k1''''''''''''' := k1''''''''''''.below hb28 k1''''''''''''.lt
  clear k1''''''''''''
  have k11'''''''' := k11'''''''.below hb28 k11'''''''.lt
  clear k11'''''''
  have ho4''''''''''' := ho4''''''''''.below hb28
  clear ho4''''''''''
  have ho7'''''''''' := ho7'''''''''.below hb28
  clear ho7'''''''''
  have hq20'''' := hq20'''.below hb28
  clear hq20'''
  have hq24'' := hq24'.below hb28
  clear hq24'
  have hi28 := ho28.lt
  try simp only [World.size_alloc] at lo28
  obtain ⟨A28, d28, B28, e28, C28, f28, D28, g28, rfl, rfl, rfl, rfl⟩ := ho28.slices
  obtain ⟨hc1x0, gc1x0⟩ := k1'''''''''''''.at_ 0 (x := .slice Aa0 x0.l.length da0) rfl
  obtain ⟨hc1x1, gc1x1⟩ := k1'''''''''''''.at_ 1 (x := .slice Ba0 x0.h.length ea0) rfl
  obtain ⟨hc1x2, gc1x2⟩ := k1'''''''''''''.at_ 2 (x := .slice Ca0 x0.w.length fa0) rfl
  obtain ⟨hc1x3, gc1x3⟩ := k1'''''''''''''.at_ 3 (x := .slice Da0 x0.f.length ga0) rfl
  obtain ⟨hc1x4, gc1x4⟩ := k1'''''''''''''.at_ 4 (x := .int .i64 x0.n) rfl
  have l1 := k1'''''''''''''.lt
  obtain ⟨hc11x0, gc11x0⟩ := k11''''''''.at_ 0 (x := .slice A9 x0.l.length d9) rfl
  obtain ⟨hc11x1, gc11x1⟩ := k11''''''''.at_ 1 (x := .slice B9 x0.h.length e9) rfl
  obtain ⟨hc11x2, gc11x2⟩ := k11''''''''.at_ 2 (x := .slice C9 x0.w.length f9) rfl
  obtain ⟨hc11x3, gc11x3⟩ := k11''''''''.at_ 3 (x := .slice D9 x0.f.length g9) rfl
  obtain ⟨hc11x4, gc11x4⟩ := k11''''''''.at_ 4 (x := .int .i64 x0.n) rfl
  have l11 := k11''''''''.lt
  go_wp2_with fail
  refine (impl_ZeroLeft _ _ _ _ x0 _ ho28.rd hS0 (by omega)).mono ?_
  rintro e w30 ⟨v31x0, bs31, rfl, ho31, lo31, hb31⟩
  clear hc1x0 gc1x0 hc1x1 gc1x1 hc1x2 gc1x2 hc1x3 gc1x3 hc1x4 gc1x4 l1 hc11x0 gc11x0 hc11x1 gc11x1 hc11x2 gc11x2 hc11x3 gc11x3 hc11x4 gc11x4 l11
  have sz32 := hb31.size
  try simp only [World.size_alloc] at sz32
  have hB''''''''''''''' := hB''''''''''''''.trans (hb31.mono hB''''''''''''''.size)
  clear hB''''''''''''''
  have k1'''''''''''''' := k1'''''''''''''.below hb31 k1'''''''''''''.lt
  clear k1'''''''''''''
  have k11''''''''' := k11''''''''.below hb31 k11''''''''.lt
  clear k11''''''''
  have ho4'''''''''''' := ho4'''''''''''.below hb31
  clear ho4'''''''''''
  have ho7''''''''''' := ho7''''''''''.below hb31
  clear ho7''''''''''
  have hq20''''' := hq20''''.below hb31
  clear hq20''''
  have hq24''' := hq24''.below hb31
  clear hq24''
  have ho28' := ho28.below hb31
  clear ho28
  have hi31 := ho31.lt
  try simp only [World.size_alloc] at lo31
  obtain ⟨A31, d31, rfl, -, -⟩ := ho31.slice
  obtain ⟨hc1x0, gc1x0⟩ := k1''''''''''''''.at_ 0 (x := .slice Aa0 x0.l.length da0) rfl
  obtain ⟨hc1x1, gc1x1⟩ := k1''''''''''''''.at_ 1 (x := .slice Ba0 x0.h.length ea0) rfl
  obtain ⟨hc1x2, gc1x2⟩ := k1''''''''''''''.at_ 2 (x := .slice Ca0 x0.w.length fa0) rfl
  obtain ⟨hc1x3, gc1x3⟩ := k1''''''''''''''.at_ 3 (x := .slice Da0 x0.f.length ga0) rfl
  obtain ⟨hc1x4, gc1x4⟩ := k1''''''''''''''.at_ 4 (x := .int .i64 x0.n) rfl
  have l1 := k1''''''''''''''.lt
  obtain ⟨hc11x0, gc11x0⟩ := k11'''''''''.at_ 0 (x := .slice A9 x0.l.length d9) rfl
  obtain ⟨hc11x1, gc11x1⟩ := k11'''''''''.at_ 1 (x := .slice B9 x0.h.length e9) rfl
  obtain ⟨hc11x2, gc11x2⟩ := k11'''''''''.at_ 2 (x := .slice C9 x0.w.length f9) rfl
  obtain ⟨hc11x3, gc11x3⟩ := k11'''''''''.at_ 3 (x := .slice D9 x0.f.length g9) rfl
  obtain ⟨hc11x4, gc11x4⟩ := k11'''''''''.at_ 4 (x := .int .i64 x0.n) rfl
  have l11 := k11'''''''''.lt
  go_wp2_with fail
  refine (eqIntSB _ _ ((zeroF x0)) ((zeroF x0)) _ ho31.rd ho7'''''''''''.rd).mono ?_
  rintro e w33 ⟨rfl, hb33⟩
  rw [decide_eq_true rfl]
  clear hc1x0 gc1x0 hc1x1 gc1x1 hc1x2 gc1x2 hc1x3 gc1x3 hc1x4 gc1x4 l1 hc11x0 gc11x0 hc11x1 gc11x1 hc11x2 gc11x2 hc11x3 gc11x3 hc11x4 gc11x4 l11
  have sz34 := hb33.size
  try simp only [World.size_alloc] at sz34
  have hB'''''''''''''''' := hB'''''''''''''''.trans (hb33.mono hB'''''''''''''''.size)
  clear hB'''''''''''''''
  have k1''''''''''''''' := k1''''''''''''''.below hb33 k1''''''''''''''.lt
  clear k1''''''''''''''
  have k11'''''''''' := k11'''''''''.below hb33 k11'''''''''.lt
  clear k11'''''''''
  have ho4''''''''''''' := ho4''''''''''''.below hb33
  clear ho4''''''''''''
  have ho7'''''''''''' := ho7'''''''''''.below hb33
  clear ho7'''''''''''
  have hq20'''''' := hq20'''''.below hb33
  clear hq20'''''
  have hq24'''' := hq24'''.below hb33
  clear hq24'''
  have ho28'' := ho28'.below hb33
  clear ho28'
  have ho31' := ho31.below hb33
  clear ho31
  obtain ⟨hc1x0, gc1x0⟩ := k1'''''''''''''''.at_ 0 (x := .slice Aa0 x0.l.length da0) rfl
  obtain ⟨hc1x1, gc1x1⟩ := k1'''''''''''''''.at_ 1 (x := .slice Ba0 x0.h.length ea0) rfl
  obtain ⟨hc1x2, gc1x2⟩ := k1'''''''''''''''.at_ 2 (x := .slice Ca0 x0.w.length fa0) rfl
  obtain ⟨hc1x3, gc1x3⟩ := k1'''''''''''''''.at_ 3 (x := .slice Da0 x0.f.length ga0) rfl
  obtain ⟨hc1x4, gc1x4⟩ := k1'''''''''''''''.at_ 4 (x := .int .i64 x0.n) rfl
  have l1 := k1'''''''''''''''.lt
  obtain ⟨hc11x0, gc11x0⟩ := k11''''''''''.at_ 0 (x := .slice A9 x0.l.length d9) rfl
  obtain ⟨hc11x1, gc11x1⟩ := k11''''''''''.at_ 1 (x := .slice B9 x0.h.length e9) rfl
  obtain ⟨hc11x2, gc11x2⟩ := k11''''''''''.at_ 2 (x := .slice C9 x0.w.length f9) rfl
  obtain ⟨hc11x3, gc11x3⟩ := k11''''''''''.at_ 3 (x := .slice D9 x0.f.length g9) rfl
  obtain ⟨hc11x4, gc11x4⟩ := k11''''''''''.at_ 4 (x := .int .i64 x0.n) rfl
  have l11 := k11''''''''''.lt
  go_wp2_with fail
  refine (heldIntSB _ (zeroF x0).length (1) _ hq24''''.rd (by omega) (by omega) (by omega)).mono ?_
  rintro e w35 ⟨rfl, hb35⟩
  clear hc1x0 gc1x0 hc1x1 gc1x1 hc1x2 gc1x2 hc1x3 gc1x3 hc1x4 gc1x4 l1 hc11x0 gc11x0 hc11x1 gc11x1 hc11x2 gc11x2 hc11x3 gc11x3 hc11x4 gc11x4 l11
  have sz36 := hb35.size
  try simp only [World.size_alloc] at sz36
  have hB''''''''''''''''' := hB''''''''''''''''.trans (hb35.mono hB''''''''''''''''.size)
  clear hB''''''''''''''''
  have k1'''''''''''''''' := k1'''''''''''''''.below hb35 k1'''''''''''''''.lt
  clear k1'''''''''''''''
  have k11''''''''''' := k11''''''''''.below hb35 k11''''''''''.lt
  clear k11''''''''''
  have ho4'''''''''''''' := ho4'''''''''''''.below hb35
  clear ho4'''''''''''''
  have ho7''''''''''''' := ho7''''''''''''.below hb35
  clear ho7''''''''''''
  have hq20''''''' := hq20''''''.below hb35
  clear hq20''''''
  have hq24''''' := hq24''''.below hb35
  clear hq24''''
  have ho28''' := ho28''.below hb35
  clear ho28''
  have ho31'' := ho31'.below hb35
  clear ho31'
  obtain ⟨hc1x0, gc1x0⟩ := k1''''''''''''''''.at_ 0 (x := .slice Aa0 x0.l.length da0) rfl
  obtain ⟨hc1x1, gc1x1⟩ := k1''''''''''''''''.at_ 1 (x := .slice Ba0 x0.h.length ea0) rfl
  obtain ⟨hc1x2, gc1x2⟩ := k1''''''''''''''''.at_ 2 (x := .slice Ca0 x0.w.length fa0) rfl
  obtain ⟨hc1x3, gc1x3⟩ := k1''''''''''''''''.at_ 3 (x := .slice Da0 x0.f.length ga0) rfl
  obtain ⟨hc1x4, gc1x4⟩ := k1''''''''''''''''.at_ 4 (x := .int .i64 x0.n) rfl
  have l1 := k1''''''''''''''''.lt
  obtain ⟨hc11x0, gc11x0⟩ := k11'''''''''''.at_ 0 (x := .slice A9 x0.l.length d9) rfl
  obtain ⟨hc11x1, gc11x1⟩ := k11'''''''''''.at_ 1 (x := .slice B9 x0.h.length e9) rfl
  obtain ⟨hc11x2, gc11x2⟩ := k11'''''''''''.at_ 2 (x := .slice C9 x0.w.length f9) rfl
  obtain ⟨hc11x3, gc11x3⟩ := k11'''''''''''.at_ 3 (x := .slice D9 x0.f.length g9) rfl
  obtain ⟨hc11x4, gc11x4⟩ := k11'''''''''''.at_ 4 (x := .int .i64 x0.n) rfl
  have l11 := k11'''''''''''.lt
  go_wp2_with fail
  go_ret
  exact ⟨rfl, hB'''''''''''''''''⟩
set_option maxRecDepth 100000 in
theorem lift_ZeroLeft (os : Os) (started : os.Started) (H : Type) (enc : TypeId × Value → H) :
    ReturnsInHanded {} Try.checked os 6 .any (Rows.fnExactZeroLeftSpec.pre6 enc Try.prog Try.f6 Rows.fnExactZeroLeftRow.domain false) (Rows.fnExactZeroLeftSpec.post enc Try.prog Try.f6 false true false false) := by
  refine returnsInHanded_of_change (C := Try.checked) (by kernel_rfl) started (by kernel_rfl) Try.func6
    (ChangeSpec.witness6 (enc := enc) (C := Try.checked) false ⟨#[], #[.agg #[.slice none 0 0, .slice none 0 0, .slice none 0 0, .slice none 0 0, .int .i64 0]], []⟩ 8 (by kernel_rfl) (by kernel_rfl) (by kernel_rfl) (by kernel_rfl)) ?_
  intro W base args ds gs before hval0 hW hcnd _
  have hval : ∀ (j : Nat) t v, Try.f6.params[j]? = some t → args[j]? = some v → Value.okWide Try.prog W .any base t v := hval0
  have hW' := hW
  obtain ⟨p, q, hA0, hV, rfl, hfz, hnd⟩ := hW
  have hA : DataW.TrodAll enc Try.prog W 0 (fun _ => true) true Try.f6.params.toList args.toList ds p := hA0
  rw [Try.params6] at hA hval
  obtain ⟨v0, vs0, d0, ds0, p0, q0, hargs, rfl, rfl, h0, r0⟩ := trodAll_cons hA
  obtain ⟨rfl, rfl, rfl⟩ := trodAll_nil r0
  obtain rfl : args = #[v0] := by cases args; simp_all
  obtain ⟨rfl, rfl⟩ := trodVars_none hV
  obtain ⟨c0, u0, s0, t0, x0, rfl, hR0, hI0⟩ := read_bench Try.underlying25 ⟨⟨rfl, rfl⟩, rfl, rfl, rfl⟩ (by decide +kernel) ⟨⟨by kernel_rfl, by kernel_rfl⟩, by kernel_rfl, by kernel_rfl, by kernel_rfl⟩ Try.underlying22 Try.underlying3 (by kernel_rfl) Try.underlying23 Try.underlying113 (by kernel_rfl) ⟨rfl, rfl⟩ (by decide +kernel) ⟨Try.underlying3, Try.underlying3⟩ Try.underlying22 Try.underlying22 Try.underlying3 (hval 0 _ v0 rfl rfl) h0
  refine (walk_ZeroLeft _ _ _ _ x0 W hR0 hI0).mono fun e W' ⟨he, hb⟩ => ?_
  subst he
  exact ⟨_, rfl, post_law (by kernel_rfl) rfl rfl (by kernel_rfl) Try.underlying4 (of_decide_eq_true (by kernel_rfl)) hW' hb⟩
theorem FnExactZeroLeft_holds : Rows.FnExactZeroLeftSaid :=
  OpenClaim.holds_of_wide 6 Try.f6 rfl rfl rfl rfl rfl rfl rfl ⟨rfl, rfl, rfl, rfl, rfl⟩ rfl rfl rfl rfl rfl (by kernel_rfl) Try.func6 (by kernel_rfl)
    (of_decide_eq_true (by kernel_rfl)) (by unfold Func.isWrapper; first | (rw [if_pos (by decide +kernel)]; kernel_rfl) | (rw [if_neg (by decide +kernel)]; exact ⟨rfl, rfl⟩))
    (fun os started H enc _ => lift_ZeroLeft os started H enc)
#print axioms FnExactZeroLeft_holds
end Go.Proofs.Ytiamkgkhamnaeaa
