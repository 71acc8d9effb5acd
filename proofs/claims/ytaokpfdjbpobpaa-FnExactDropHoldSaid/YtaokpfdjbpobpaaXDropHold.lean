/- FnExactDropHold answers true at every input: DropHold answers as its model does, leaves its arguments alone and owns its answer. Conditions: none. -/
import Derived.Test.YtaokpfdjbpobpaaLaw
import Derived.Test.YtaokpfdjbpobpaaLaw9
import Derived.Test.YtaokpfdjbpobpaaMN
import Derived.Test.YtaokpfdjbpobpaaN18
import Derived.Deep.RegionHeld3
namespace Go.Proofs.Ytaokpfdjbpobpaa
set_option maxRecDepth 20000
set_option linter.unusedSimpArgs false
set_option linter.unusedVariables false
open Go.ChangeShapes Go.WideShapes Go.ChangeAt Go.RowKit
set_option linter.unusedVariables false
set_option maxHeartbeats 4000000 in
theorem walk_DropHold (v0 u0 s0 r0 : Value) (x0 : Bn) (a1 : Int) (a2 : Int) (w : World) (hA0 : RdABn w v0 u0 s0 r0 x0) (hS0 : BnR x0) (hw1 : (Lit.int .i64 a1).wf = true) (hw2 : (Lit.int .i64 a2).wf = true) :
    Calls Try.prog 9 #[.agg #[v0, u0, s0, r0, .int .i64 x0.n], .int .i64 a1, .int .i64 a2] w fun e w' => e = .returned (.bool true) ∧ Below w.heap.size w w' := by
  obtain ⟨Aa0, da0, Ba0, ea0, Ca0, fa0, Da0, ga0, rfl, rfl, rfl, rfl⟩ := hA0.slices
  have HAaB := Lib.hid hA0
  clear hA0
  have hqc : cntBn x0 ≤ 2 * szBn x0 := by unfold cntBn szBn; omega
  have hqd : cntBn (dropBn x0 a1 a2) ≤ cntBn x0 := by have := List.length_filter_le (fun e : P2 => !decide (e = ⟨a1, a2⟩)) x0.h; unfold dropBn cntBn; split <;> simp <;> omega
  have hB := Below.refl w.heap.size w
  go_enter Try.func9, Try.ntmps9
  go_wp2_with fail
  have hB' := hB.alloc hB.size (.cells #[.slice Aa0 x0.l.length da0, .slice Ba0 x0.h.length ea0, .slice Ca0 x0.w.length fa0, .slice Da0 x0.f.length ga0, .int .i64 x0.n] 25)
  clear hB
  have k1 := Bk.new w #[.slice Aa0 x0.l.length da0, .slice Ba0 x0.h.length ea0, .slice Ca0 x0.w.length fa0, .slice Da0 x0.f.length ga0, .int .i64 x0.n] 25
  refine (szBench _ _ _ _ x0 (1048576) _ (HAaB.out.below hB') (by omega) (by omega)).mono ?_
  rintro e w2 ⟨rfl, hb2⟩
  have sz3 := hb2.size
  try simp only [World.size_alloc] at sz3
  have hB'' := hB'.trans (hb2.mono hB'.size)
  clear hB'
  have k1' := k1.below hb2 k1.lt
  clear k1
  by_cases hn2 : (1048576 : Int) - (szBn x0) < 0
  · rw [show szF (szBn x0) (1048576) = -1 by unfold szF; rw [if_pos hn2]]
    go_wp2_with fail
    go_ret
    exact ⟨rfl, hB''⟩
  rw [show szF (szBn x0) (1048576) = 1048576 - (szBn x0) by unfold szF; rw [if_neg hn2]]
  obtain ⟨hc1x0, gc1x0⟩ := k1'.at_ 0 (x := .slice Aa0 x0.l.length da0) rfl
  obtain ⟨hc1x1, gc1x1⟩ := k1'.at_ 1 (x := .slice Ba0 x0.h.length ea0) rfl
  obtain ⟨hc1x2, gc1x2⟩ := k1'.at_ 2 (x := .slice Ca0 x0.w.length fa0) rfl
  obtain ⟨hc1x3, gc1x3⟩ := k1'.at_ 3 (x := .slice Da0 x0.f.length ga0) rfl
  obtain ⟨hc1x4, gc1x4⟩ := k1'.at_ 4 (x := .int .i64 x0.n) rfl
  have l1 := k1'.lt
  go_wp2_with fail
  refine (toBench _ _ _ _ x0 _ (HAaB.out.below hB'') (by omega)).mono ?_
  rintro e w4 ⟨v4x0, v4x1, v4x2, v4x3, bs4, rfl, ho4, lo4, hb4⟩
  clear hc1x0 gc1x0 hc1x1 gc1x1 hc1x2 gc1x2 hc1x3 gc1x3 hc1x4 gc1x4 l1
  have sz5 := hb4.size
  try simp only [World.size_alloc] at sz5
  have hB''' := hB''.trans (hb4.mono hB''.size)
  clear hB''
  have k1'' := k1'.below hb4 k1'.lt
  clear k1'
  have hi4 := ho4.lt
  try simp only [World.size_alloc] at lo4
  obtain ⟨A4, d4, B4, e4, C4, f4, D4, g4, rfl, rfl, rfl, rfl⟩ := ho4.slices
  obtain ⟨hc1x0, gc1x0⟩ := k1''.at_ 0 (x := .slice Aa0 x0.l.length da0) rfl
  obtain ⟨hc1x1, gc1x1⟩ := k1''.at_ 1 (x := .slice Ba0 x0.h.length ea0) rfl
  obtain ⟨hc1x2, gc1x2⟩ := k1''.at_ 2 (x := .slice Ca0 x0.w.length fa0) rfl
  obtain ⟨hc1x3, gc1x3⟩ := k1''.at_ 3 (x := .slice Da0 x0.f.length ga0) rfl
  obtain ⟨hc1x4, gc1x4⟩ := k1''.at_ 4 (x := .int .i64 x0.n) rfl
  have l1 := k1''.lt
  go_wp2_with fail
  refine (spec_DropHold _ _ _ _ x0 a1 a2 _ ho4.rd (by omega)).mono ?_
  rintro e w6 ⟨v7x0, v7x1, v7x2, v7x3, bs7, rfl, ho7, lo7, hb7⟩
  clear hc1x0 gc1x0 hc1x1 gc1x1 hc1x2 gc1x2 hc1x3 gc1x3 hc1x4 gc1x4 l1
  have sz8 := hb7.size
  try simp only [World.size_alloc] at sz8
  have hB'''' := hB'''.trans (hb7.mono hB'''.size)
  clear hB'''
  have k1''' := k1''.below hb7 k1''.lt
  clear k1''
  have ho4' := ho4.below hb7
  clear ho4
  have hi7 := ho7.lt
  try simp only [World.size_alloc] at lo7
  obtain ⟨A7, d7, B7, e7, C7, f7, D7, g7, rfl, rfl, rfl, rfl⟩ := ho7.slices
  obtain ⟨hc1x0, gc1x0⟩ := k1'''.at_ 0 (x := .slice Aa0 x0.l.length da0) rfl
  obtain ⟨hc1x1, gc1x1⟩ := k1'''.at_ 1 (x := .slice Ba0 x0.h.length ea0) rfl
  obtain ⟨hc1x2, gc1x2⟩ := k1'''.at_ 2 (x := .slice Ca0 x0.w.length fa0) rfl
  obtain ⟨hc1x3, gc1x3⟩ := k1'''.at_ 3 (x := .slice Da0 x0.f.length ga0) rfl
  obtain ⟨hc1x4, gc1x4⟩ := k1'''.at_ 4 (x := .int .i64 x0.n) rfl
  have l1 := k1'''.lt
  go_wp2_with fail
  clear hc1x0 gc1x0 hc1x1 gc1x1 hc1x2 gc1x2 hc1x3 gc1x3 hc1x4 gc1x4 l1
  have k1'''' := k1'''.alloc (.cells #[.slice A7 (dropBn x0 a1 a2).l.length d7, .slice B7 (dropBn x0 a1 a2).h.length e7, .slice C7 (dropBn x0 a1 a2).w.length f7, .slice D7 (dropBn x0 a1 a2).f.length g7, .int .i64 (dropBn x0 a1 a2).n] 30)
  clear k1'''
  have ho4'' := ho4'.below ((Below.refl _ _).alloc (Nat.le_refl _) (.cells #[.slice A7 (dropBn x0 a1 a2).l.length d7, .slice B7 (dropBn x0 a1 a2).h.length e7, .slice C7 (dropBn x0 a1 a2).w.length f7, .slice D7 (dropBn x0 a1 a2).f.length g7, .int .i64 (dropBn x0 a1 a2).n] 30))
  clear ho4'
  have ho7' := ho7.below ((Below.refl _ _).alloc (Nat.le_refl _) (.cells #[.slice A7 (dropBn x0 a1 a2).l.length d7, .slice B7 (dropBn x0 a1 a2).h.length e7, .slice C7 (dropBn x0 a1 a2).w.length f7, .slice D7 (dropBn x0 a1 a2).f.length g7, .int .i64 (dropBn x0 a1 a2).n] 30))
  clear ho7
  have hB''''' := hB''''.alloc hB''''.size (.cells #[.slice A7 (dropBn x0 a1 a2).l.length d7, .slice B7 (dropBn x0 a1 a2).h.length e7, .slice C7 (dropBn x0 a1 a2).w.length f7, .slice D7 (dropBn x0 a1 a2).f.length g7, .int .i64 (dropBn x0 a1 a2).n] 30)
  clear hB''''
  have k9 := Bk.new w6 #[.slice A7 (dropBn x0 a1 a2).l.length d7, .slice B7 (dropBn x0 a1 a2).h.length e7, .slice C7 (dropBn x0 a1 a2).w.length f7, .slice D7 (dropBn x0 a1 a2).f.length g7, .int .i64 (dropBn x0 a1 a2).n] 30
  refine (toBench _ _ _ _ x0 _ (HAaB.out.below hB''''') (by omega)).mono ?_
  rintro e w10 ⟨v10x0, v10x1, v10x2, v10x3, bs10, rfl, ho10, lo10, hb10⟩
  have sz11 := hb10.size
  try simp only [World.size_alloc] at sz11
  have hB'''''' := hB'''''.trans (hb10.mono hB'''''.size)
  clear hB'''''
  have k1''''' := k1''''.below hb10 k1''''.lt
  clear k1''''
  have k9' := k9.below hb10 k9.lt
  clear k9
  have ho4''' := ho4''.below hb10
  clear ho4''
  have ho7'' := ho7'.below hb10
  clear ho7'
  have hi10 := ho10.lt
  try simp only [World.size_alloc] at lo10
  obtain ⟨A10, d10, B10, e10, C10, f10, D10, g10, rfl, rfl, rfl, rfl⟩ := ho10.slices
  obtain ⟨hc1x0, gc1x0⟩ := k1'''''.at_ 0 (x := .slice Aa0 x0.l.length da0) rfl
  obtain ⟨hc1x1, gc1x1⟩ := k1'''''.at_ 1 (x := .slice Ba0 x0.h.length ea0) rfl
  obtain ⟨hc1x2, gc1x2⟩ := k1'''''.at_ 2 (x := .slice Ca0 x0.w.length fa0) rfl
  obtain ⟨hc1x3, gc1x3⟩ := k1'''''.at_ 3 (x := .slice Da0 x0.f.length ga0) rfl
  obtain ⟨hc1x4, gc1x4⟩ := k1'''''.at_ 4 (x := .int .i64 x0.n) rfl
  have l1 := k1'''''.lt
  obtain ⟨hc9x0, gc9x0⟩ := k9'.at_ 0 (x := .slice A7 (dropBn x0 a1 a2).l.length d7) rfl
  obtain ⟨hc9x1, gc9x1⟩ := k9'.at_ 1 (x := .slice B7 (dropBn x0 a1 a2).h.length e7) rfl
  obtain ⟨hc9x2, gc9x2⟩ := k9'.at_ 2 (x := .slice C7 (dropBn x0 a1 a2).w.length f7) rfl
  obtain ⟨hc9x3, gc9x3⟩ := k9'.at_ 3 (x := .slice D7 (dropBn x0 a1 a2).f.length g7) rfl
  obtain ⟨hc9x4, gc9x4⟩ := k9'.at_ 4 (x := .int .i64 (dropBn x0 a1 a2).n) rfl
  have l9 := k9'.lt
  go_wp2_with fail
  clear hc1x0 gc1x0 hc1x1 gc1x1 hc1x2 gc1x2 hc1x3 gc1x3 hc1x4 gc1x4 l1 hc9x0 gc9x0 hc9x1 gc9x1 hc9x2 gc9x2 hc9x3 gc9x3 hc9x4 gc9x4 l9
  have k1'''''' := k1'''''.alloc (.cells #[.slice A10 x0.l.length d10, .slice B10 x0.h.length e10, .slice C10 x0.w.length f10, .slice D10 x0.f.length g10, .int .i64 x0.n] 30)
  clear k1'''''
  have k9'' := k9'.alloc (.cells #[.slice A10 x0.l.length d10, .slice B10 x0.h.length e10, .slice C10 x0.w.length f10, .slice D10 x0.f.length g10, .int .i64 x0.n] 30)
  clear k9'
  have ho4'''' := ho4'''.below ((Below.refl _ _).alloc (Nat.le_refl _) (.cells #[.slice A10 x0.l.length d10, .slice B10 x0.h.length e10, .slice C10 x0.w.length f10, .slice D10 x0.f.length g10, .int .i64 x0.n] 30))
  clear ho4'''
  have ho7''' := ho7''.below ((Below.refl _ _).alloc (Nat.le_refl _) (.cells #[.slice A10 x0.l.length d10, .slice B10 x0.h.length e10, .slice C10 x0.w.length f10, .slice D10 x0.f.length g10, .int .i64 x0.n] 30))
  clear ho7''
  have ho10' := ho10.below ((Below.refl _ _).alloc (Nat.le_refl _) (.cells #[.slice A10 x0.l.length d10, .slice B10 x0.h.length e10, .slice C10 x0.w.length f10, .slice D10 x0.f.length g10, .int .i64 x0.n] 30))
  clear ho10
  have hB''''''' := hB''''''.alloc hB''''''.size (.cells #[.slice A10 x0.l.length d10, .slice B10 x0.h.length e10, .slice C10 x0.w.length f10, .slice D10 x0.f.length g10, .int .i64 x0.n] 30)
  clear hB''''''
  have k12 := Bk.new w10 #[.slice A10 x0.l.length d10, .slice B10 x0.h.length e10, .slice C10 x0.w.length f10, .slice D10 x0.f.length g10, .int .i64 x0.n] 30
  refine (impl_DropHold _ _ _ _ x0 a1 a2 _ ho10'.rd hS0 (by omega)).mono ?_
  rintro e w13 ⟨v14x0, v14x1, v14x2, v14x3, bs14, rfl, ho14, lo14, hb14⟩
  have sz15 := hb14.size
  try simp only [World.size_alloc] at sz15
  have hB'''''''' := hB'''''''.trans (hb14.mono hB'''''''.size)
  clear hB'''''''
  have k1''''''' := k1''''''.below hb14 k1''''''.lt
  clear k1''''''
  have k9''' := k9''.below hb14 k9''.lt
  clear k9''
  have k12' := k12.below hb14 k12.lt
  clear k12
  have ho4''''' := ho4''''.below hb14
  clear ho4''''
  have ho7'''' := ho7'''.below hb14
  clear ho7'''
  have ho10'' := ho10'.below hb14
  clear ho10'
  have hi14 := ho14.lt
  try simp only [World.size_alloc] at lo14
  obtain ⟨A14, d14, B14, e14, C14, f14, D14, g14, rfl, rfl, rfl, rfl⟩ := ho14.slices
  obtain ⟨hc1x0, gc1x0⟩ := k1'''''''.at_ 0 (x := .slice Aa0 x0.l.length da0) rfl
  obtain ⟨hc1x1, gc1x1⟩ := k1'''''''.at_ 1 (x := .slice Ba0 x0.h.length ea0) rfl
  obtain ⟨hc1x2, gc1x2⟩ := k1'''''''.at_ 2 (x := .slice Ca0 x0.w.length fa0) rfl
  obtain ⟨hc1x3, gc1x3⟩ := k1'''''''.at_ 3 (x := .slice Da0 x0.f.length ga0) rfl
  obtain ⟨hc1x4, gc1x4⟩ := k1'''''''.at_ 4 (x := .int .i64 x0.n) rfl
  have l1 := k1'''''''.lt
  obtain ⟨hc9x0, gc9x0⟩ := k9'''.at_ 0 (x := .slice A7 (dropBn x0 a1 a2).l.length d7) rfl
  obtain ⟨hc9x1, gc9x1⟩ := k9'''.at_ 1 (x := .slice B7 (dropBn x0 a1 a2).h.length e7) rfl
  obtain ⟨hc9x2, gc9x2⟩ := k9'''.at_ 2 (x := .slice C7 (dropBn x0 a1 a2).w.length f7) rfl
  obtain ⟨hc9x3, gc9x3⟩ := k9'''.at_ 3 (x := .slice D7 (dropBn x0 a1 a2).f.length g7) rfl
  obtain ⟨hc9x4, gc9x4⟩ := k9'''.at_ 4 (x := .int .i64 (dropBn x0 a1 a2).n) rfl
  have l9 := k9'''.lt
  obtain ⟨hc12x0, gc12x0⟩ := k12'.at_ 0 (x := .slice A10 x0.l.length d10) rfl
  obtain ⟨hc12x1, gc12x1⟩ := k12'.at_ 1 (x := .slice B10 x0.h.length e10) rfl
  obtain ⟨hc12x2, gc12x2⟩ := k12'.at_ 2 (x := .slice C10 x0.w.length f10) rfl
  obtain ⟨hc12x3, gc12x3⟩ := k12'.at_ 3 (x := .slice D10 x0.f.length g10) rfl
  obtain ⟨hc12x4, gc12x4⟩ := k12'.at_ 4 (x := .int .i64 x0.n) rfl
  have l12 := k12'.lt
  go_wp2_with fail
  clear hc1x0 gc1x0 hc1x1 gc1x1 hc1x2 gc1x2 hc1x3 gc1x3 hc1x4 gc1x4 l1 hc9x0 gc9x0 hc9x1 gc9x1 hc9x2 gc9x2 hc9x3 gc9x3 hc9x4 gc9x4 l9 hc12x0 gc12x0 hc12x1 gc12x1 hc12x2 gc12x2 hc12x3 gc12x3 hc12x4 gc12x4 l12
  have k1'''''''' := k1'''''''.alloc (.cells #[.slice A14 (dropBn x0 a1 a2).l.length d14, .slice B14 (dropBn x0 a1 a2).h.length e14, .slice C14 (dropBn x0 a1 a2).w.length f14, .slice D14 (dropBn x0 a1 a2).f.length g14, .int .i64 (dropBn x0 a1 a2).n] 30)
  clear k1'''''''
  have k9'''' := k9'''.alloc (.cells #[.slice A14 (dropBn x0 a1 a2).l.length d14, .slice B14 (dropBn x0 a1 a2).h.length e14, .slice C14 (dropBn x0 a1 a2).w.length f14, .slice D14 (dropBn x0 a1 a2).f.length g14, .int .i64 (dropBn x0 a1 a2).n] 30)
  clear k9'''
  have k12'' := k12'.alloc (.cells #[.slice A14 (dropBn x0 a1 a2).l.length d14, .slice B14 (dropBn x0 a1 a2).h.length e14, .slice C14 (dropBn x0 a1 a2).w.length f14, .slice D14 (dropBn x0 a1 a2).f.length g14, .int .i64 (dropBn x0 a1 a2).n] 30)
  clear k12'
  have ho4'''''' := ho4'''''.below ((Below.refl _ _).alloc (Nat.le_refl _) (.cells #[.slice A14 (dropBn x0 a1 a2).l.length d14, .slice B14 (dropBn x0 a1 a2).h.length e14, .slice C14 (dropBn x0 a1 a2).w.length f14, .slice D14 (dropBn x0 a1 a2).f.length g14, .int .i64 (dropBn x0 a1 a2).n] 30))
  clear ho4'''''
  have ho7''''' := ho7''''.below ((Below.refl _ _).alloc (Nat.le_refl _) (.cells #[.slice A14 (dropBn x0 a1 a2).l.length d14, .slice B14 (dropBn x0 a1 a2).h.length e14, .slice C14 (dropBn x0 a1 a2).w.length f14, .slice D14 (dropBn x0 a1 a2).f.length g14, .int .i64 (dropBn x0 a1 a2).n] 30))
  clear ho7''''
  have ho10''' := ho10''.below ((Below.refl _ _).alloc (Nat.le_refl _) (.cells #[.slice A14 (dropBn x0 a1 a2).l.length d14, .slice B14 (dropBn x0 a1 a2).h.length e14, .slice C14 (dropBn x0 a1 a2).w.length f14, .slice D14 (dropBn x0 a1 a2).f.length g14, .int .i64 (dropBn x0 a1 a2).n] 30))
  clear ho10''
  have ho14' := ho14.below ((Below.refl _ _).alloc (Nat.le_refl _) (.cells #[.slice A14 (dropBn x0 a1 a2).l.length d14, .slice B14 (dropBn x0 a1 a2).h.length e14, .slice C14 (dropBn x0 a1 a2).w.length f14, .slice D14 (dropBn x0 a1 a2).f.length g14, .int .i64 (dropBn x0 a1 a2).n] 30))
  clear ho14
  have hB''''''''' := hB''''''''.alloc hB''''''''.size (.cells #[.slice A14 (dropBn x0 a1 a2).l.length d14, .slice B14 (dropBn x0 a1 a2).h.length e14, .slice C14 (dropBn x0 a1 a2).w.length f14, .slice D14 (dropBn x0 a1 a2).f.length g14, .int .i64 (dropBn x0 a1 a2).n] 30)
  clear hB''''''''
  have k16 := Bk.new w13 #[.slice A14 (dropBn x0 a1 a2).l.length d14, .slice B14 (dropBn x0 a1 a2).h.length e14, .slice C14 (dropBn x0 a1 a2).w.length f14, .slice D14 (dropBn x0 a1 a2).f.length g14, .int .i64 (dropBn x0 a1 a2).n] 30
  refine (eqBench _ _ _ _ _ _ _ _ ((dropBn x0 a1 a2)) ((dropBn x0 a1 a2)) _ ho14'.rd ho7'''''.rd).mono ?_
  rintro e w17 ⟨rfl, hb17⟩
  rw [decide_eq_true rfl]
  have sz18 := hb17.size
  try simp only [World.size_alloc] at sz18
  have hB'''''''''' := hB'''''''''.trans (hb17.mono hB'''''''''.size)
  clear hB'''''''''
  have k1''''''''' := k1''''''''.below hb17 k1''''''''.lt
  clear k1''''''''
  have k9''''' := k9''''.below hb17 k9''''.lt
  clear k9''''
  have k12''' := k12''.below hb17 k12''.lt
  clear k12''
  have k16' := k16.below hb17 k16.lt
  clear k16
  have ho4''''''' := ho4''''''.below hb17
  clear ho4''''''
  have ho7'''''' := ho7'''''.below hb17
  clear ho7'''''
  have ho10'''' := ho10'''.below hb17
  clear ho10'''
  have ho14'' := ho14'.below hb17
  clear ho14'
  obtain ⟨hc1x0, gc1x0⟩ := k1'''''''''.at_ 0 (x := .slice Aa0 x0.l.length da0) rfl
  obtain ⟨hc1x1, gc1x1⟩ := k1'''''''''.at_ 1 (x := .slice Ba0 x0.h.length ea0) rfl
  obtain ⟨hc1x2, gc1x2⟩ := k1'''''''''.at_ 2 (x := .slice Ca0 x0.w.length fa0) rfl
  obtain ⟨hc1x3, gc1x3⟩ := k1'''''''''.at_ 3 (x := .slice Da0 x0.f.length ga0) rfl
  obtain ⟨hc1x4, gc1x4⟩ := k1'''''''''.at_ 4 (x := .int .i64 x0.n) rfl
  have l1 := k1'''''''''.lt
  obtain ⟨hc9x0, gc9x0⟩ := k9'''''.at_ 0 (x := .slice A7 (dropBn x0 a1 a2).l.length d7) rfl
  obtain ⟨hc9x1, gc9x1⟩ := k9'''''.at_ 1 (x := .slice B7 (dropBn x0 a1 a2).h.length e7) rfl
  obtain ⟨hc9x2, gc9x2⟩ := k9'''''.at_ 2 (x := .slice C7 (dropBn x0 a1 a2).w.length f7) rfl
  obtain ⟨hc9x3, gc9x3⟩ := k9'''''.at_ 3 (x := .slice D7 (dropBn x0 a1 a2).f.length g7) rfl
  obtain ⟨hc9x4, gc9x4⟩ := k9'''''.at_ 4 (x := .int .i64 (dropBn x0 a1 a2).n) rfl
  have l9 := k9'''''.lt
  obtain ⟨hc12x0, gc12x0⟩ := k12'''.at_ 0 (x := .slice A10 x0.l.length d10) rfl
  obtain ⟨hc12x1, gc12x1⟩ := k12'''.at_ 1 (x := .slice B10 x0.h.length e10) rfl
  obtain ⟨hc12x2, gc12x2⟩ := k12'''.at_ 2 (x := .slice C10 x0.w.length f10) rfl
  obtain ⟨hc12x3, gc12x3⟩ := k12'''.at_ 3 (x := .slice D10 x0.f.length g10) rfl
  obtain ⟨hc12x4, gc12x4⟩ := k12'''.at_ 4 (x := .int .i64 x0.n) rfl
  have l12 := k12'''.lt
  obtain ⟨hc16x0, gc16x0⟩ := k16'.at_ 0 (x := .slice A14 (dropBn x0 a1 a2).l.length d14) rfl
  obtain ⟨hc16x1, gc16x1⟩ := k16'.at_ 1 (x := .slice B14 (dropBn x0 a1 a2).h.length e14) rfl
  obtain ⟨hc16x2, gc16x2⟩ := k16'.at_ 2 (x := .slice C14 (dropBn x0 a1 a2).w.length f14) rfl
  obtain ⟨hc16x3, gc16x3⟩ := k16'.at_ 3 (x := .slice D14 (dropBn x0 a1 a2).f.length g14) rfl
  obtain ⟨hc16x4, gc16x4⟩ := k16'.at_ 4 (x := .int .i64 (dropBn x0 a1 a2).n) rfl
  have l16 := k16'.lt
  go_wp2_with fail
  clear hc1x0 gc1x0 hc1x1 gc1x1 hc1x2 gc1x2 hc1x3 gc1x3 hc1x4 gc1x4 l1 hc9x0 gc9x0 hc9x1 gc9x1 hc9x2 gc9x2 hc9x3 gc9x3 hc9x4 gc9x4 l9 hc12x0 gc12x0 hc12x1 gc12x1 hc12x2 gc12x2 hc12x3 gc12x3 hc12x4 gc12x4 l12 hc16x0 gc16x0 hc16x1 gc16x1 hc16x2 gc16x2 hc16x3 gc16x3 hc16x4 gc16x4 l16
  obtain ⟨hc1x0, gc1x0⟩ := k1'''''''''.at_ 0 (x := .slice Aa0 x0.l.length da0) rfl
  obtain ⟨hc1x1, gc1x1⟩ := k1'''''''''.at_ 1 (x := .slice Ba0 x0.h.length ea0) rfl
  obtain ⟨hc1x2, gc1x2⟩ := k1'''''''''.at_ 2 (x := .slice Ca0 x0.w.length fa0) rfl
  obtain ⟨hc1x3, gc1x3⟩ := k1'''''''''.at_ 3 (x := .slice Da0 x0.f.length ga0) rfl
  obtain ⟨hc1x4, gc1x4⟩ := k1'''''''''.at_ 4 (x := .int .i64 x0.n) rfl
  have l1 := k1'''''''''.lt
  obtain ⟨hc9x0, gc9x0⟩ := k9'''''.at_ 0 (x := .slice A7 (dropBn x0 a1 a2).l.length d7) rfl
  obtain ⟨hc9x1, gc9x1⟩ := k9'''''.at_ 1 (x := .slice B7 (dropBn x0 a1 a2).h.length e7) rfl
  obtain ⟨hc9x2, gc9x2⟩ := k9'''''.at_ 2 (x := .slice C7 (dropBn x0 a1 a2).w.length f7) rfl
  obtain ⟨hc9x3, gc9x3⟩ := k9'''''.at_ 3 (x := .slice D7 (dropBn x0 a1 a2).f.length g7) rfl
  obtain ⟨hc9x4, gc9x4⟩ := k9'''''.at_ 4 (x := .int .i64 (dropBn x0 a1 a2).n) rfl
  have l9 := k9'''''.lt
  obtain ⟨hc12x0, gc12x0⟩ := k12'''.at_ 0 (x := .slice A10 x0.l.length d10) rfl
  obtain ⟨hc12x1, gc12x1⟩ := k12'''.at_ 1 (x := .slice B10 x0.h.length e10) rfl
  obtain ⟨hc12x2, gc12x2⟩ := k12'''.at_ 2 (x := .slice C10 x0.w.length f10) rfl
  obtain ⟨hc12x3, gc12x3⟩ := k12'''.at_ 3 (x := .slice D10 x0.f.length g10) rfl
  obtain ⟨hc12x4, gc12x4⟩ := k12'''.at_ 4 (x := .int .i64 x0.n) rfl
  have l12 := k12'''.lt
  obtain ⟨hc16x0, gc16x0⟩ := k16'.at_ 0 (x := .slice A14 (dropBn x0 a1 a2).l.length d14) rfl
  obtain ⟨hc16x1, gc16x1⟩ := k16'.at_ 1 (x := .slice B14 (dropBn x0 a1 a2).h.length e14) rfl
  obtain ⟨hc16x2, gc16x2⟩ := k16'.at_ 2 (x := .slice C14 (dropBn x0 a1 a2).w.length f14) rfl
  obtain ⟨hc16x3, gc16x3⟩ := k16'.at_ 3 (x := .slice D14 (dropBn x0 a1 a2).f.length g14) rfl
  obtain ⟨hc16x4, gc16x4⟩ := k16'.at_ 4 (x := .int .i64 (dropBn x0 a1 a2).n) rfl
  have l16 := k16'.lt
  have HS20 : Hid (∀ W : World, Below w17.heap.size w17 W → Below w17.heap.size w17 W ∧ W.cell? ⟨w10.heap.size, 0, none⟩ = some (.slice A10 x0.l.length d10) ∧ W.cell? ⟨w10.heap.size, 1, none⟩ = some (.slice B10 x0.h.length e10) ∧ W.cell? ⟨w10.heap.size, 2, none⟩ = some (.slice C10 x0.w.length f10) ∧ W.cell? ⟨w10.heap.size, 3, none⟩ = some (.slice D10 x0.f.length g10) ∧ W.cell? ⟨w10.heap.size, 4, none⟩ = some (.int .i64 x0.n) ∧ W.cell? ⟨w.heap.size, 0, none⟩ = some (.slice Aa0 x0.l.length da0) ∧ W.cell? ⟨w.heap.size, 1, none⟩ = some (.slice Ba0 x0.h.length ea0) ∧ W.cell? ⟨w.heap.size, 2, none⟩ = some (.slice Ca0 x0.w.length fa0) ∧ W.cell? ⟨w.heap.size, 3, none⟩ = some (.slice Da0 x0.f.length ga0) ∧ W.cell? ⟨w.heap.size, 4, none⟩ = some (.int .i64 x0.n)) := Lib.hid fun W hW => ⟨hW, (hW.cell (p := ⟨w10.heap.size, 0, none⟩) k12'''.lt).trans hc12x0, (hW.cell (p := ⟨w10.heap.size, 1, none⟩) k12'''.lt).trans hc12x1, (hW.cell (p := ⟨w10.heap.size, 2, none⟩) k12'''.lt).trans hc12x2, (hW.cell (p := ⟨w10.heap.size, 3, none⟩) k12'''.lt).trans hc12x3, (hW.cell (p := ⟨w10.heap.size, 4, none⟩) k12'''.lt).trans hc12x4, (hW.cell (p := ⟨w.heap.size, 0, none⟩) k1'''''''''.lt).trans hc1x0, (hW.cell (p := ⟨w.heap.size, 1, none⟩) k1'''''''''.lt).trans hc1x1, (hW.cell (p := ⟨w.heap.size, 2, none⟩) k1'''''''''.lt).trans hc1x2, (hW.cell (p := ⟨w.heap.size, 3, none⟩) k1'''''''''.lt).trans hc1x3, (hW.cell (p := ⟨w.heap.size, 4, none⟩) k1'''''''''.lt).trans hc1x4⟩
  have HhB__________ := Lib.hid hB''''''''''
  have Hho4_______ := Lib.hid ho4'''''''
  have Hho7______ := Lib.hid ho7''''''
  have Hho10____ := Lib.hid ho10''''
  have Hho14__ := Lib.hid ho14''
  go_region_held3 (fun W => Below w17.heap.size w17 W ∧ W.cell? ⟨w10.heap.size, 0, none⟩ = some (.slice A10 x0.l.length d10) ∧ W.cell? ⟨w10.heap.size, 1, none⟩ = some (.slice B10 x0.h.length e10) ∧ W.cell? ⟨w10.heap.size, 2, none⟩ = some (.slice C10 x0.w.length f10) ∧ W.cell? ⟨w10.heap.size, 3, none⟩ = some (.slice D10 x0.f.length g10) ∧ W.cell? ⟨w10.heap.size, 4, none⟩ = some (.int .i64 x0.n) ∧ W.cell? ⟨w.heap.size, 0, none⟩ = some (.slice Aa0 x0.l.length da0) ∧ W.cell? ⟨w.heap.size, 1, none⟩ = some (.slice Ba0 x0.h.length ea0) ∧ W.cell? ⟨w.heap.size, 2, none⟩ = some (.slice Ca0 x0.w.length fa0) ∧ W.cell? ⟨w.heap.size, 3, none⟩ = some (.slice Da0 x0.f.length ga0) ∧ W.cell? ⟨w.heap.size, 4, none⟩ = some (.int .i64 x0.n)) (first | (exact HS20.out _ (Below.refl _ _).drew) | (exact HS20.out _ (by assumption)))
    (first
      | (go_at_call 14; have hS := ‹Below w17.heap.size w17 _ ∧ _›.1; refine (toBench _ _ _ _ x0 _ (HAaB.out.below (HhB__________.out.trans (hS.mono HhB__________.out.size))) (by omega)).mono ?_; rintro e wa19 ⟨vv0, vv1, vv2, vv3, bsw, rfl, how, low, hbw19⟩; have HO19 := Lib.hid how; clear how low; have hS20x0 := hS.trans (hbw19.mono hS.size); clear hS)
      | (go_at_call 16; have hS := ‹Below w17.heap.size w17 _ ∧ _›.1; refine (eqBench _ _ _ _ _ _ _ _ (x0) (x0) _ (Hho10____.out.below hS).rd HO19.out.rd).mono ?_; rintro e w19 ⟨rfl, hbe19⟩; have hS20x1 := hS.trans (hbe19.mono hS.size); clear hS))
  have hS20 := ‹Below w17.heap.size w17 _ ∧ _›.1
  clear HS20 HhB__________ Hho4_______ Hho7______ Hho10____ Hho14__
  clear hc1x0 gc1x0 hc1x1 gc1x1 hc1x2 gc1x2 hc1x3 gc1x3 hc1x4 gc1x4 l1 hc9x0 gc9x0 hc9x1 gc9x1 hc9x2 gc9x2 hc9x3 gc9x3 hc9x4 gc9x4 l9 hc12x0 gc12x0 hc12x1 gc12x1 hc12x2 gc12x2 hc12x3 gc12x3 hc12x4 gc12x4 l12 hc16x0 gc16x0 hc16x1 gc16x1 hc16x2 gc16x2 hc16x3 gc16x3 hc16x4 gc16x4 l16
  have sz21 := hS20.size
  try simp only [World.size_alloc] at sz21
  have hB''''''''''' := hB''''''''''.trans (hS20.mono hB''''''''''.size)
  clear hB''''''''''
  have k1'''''''''' := k1'''''''''.below hS20 k1'''''''''.lt
  clear k1'''''''''
  have k9'''''' := k9'''''.below hS20 k9'''''.lt
  clear k9'''''
  have k12'''' := k12'''.below hS20 k12'''.lt
  clear k12'''
  have k16'' := k16'.below hS20 k16'.lt
  clear k16'
  have ho4'''''''' := ho4'''''''.below hS20
  clear ho4'''''''
  have ho7''''''' := ho7''''''.below hS20
  clear ho7''''''
  have ho10''''' := ho10''''.below hS20
  clear ho10''''
  have ho14''' := ho14''.below hS20
  clear ho14''
  clear hS20
  clear HO19
  obtain ⟨hc1x0, gc1x0⟩ := k1''''''''''.at_ 0 (x := .slice Aa0 x0.l.length da0) rfl
  obtain ⟨hc1x1, gc1x1⟩ := k1''''''''''.at_ 1 (x := .slice Ba0 x0.h.length ea0) rfl
  obtain ⟨hc1x2, gc1x2⟩ := k1''''''''''.at_ 2 (x := .slice Ca0 x0.w.length fa0) rfl
  obtain ⟨hc1x3, gc1x3⟩ := k1''''''''''.at_ 3 (x := .slice Da0 x0.f.length ga0) rfl
  obtain ⟨hc1x4, gc1x4⟩ := k1''''''''''.at_ 4 (x := .int .i64 x0.n) rfl
  have l1 := k1''''''''''.lt
  obtain ⟨hc9x0, gc9x0⟩ := k9''''''.at_ 0 (x := .slice A7 (dropBn x0 a1 a2).l.length d7) rfl
  obtain ⟨hc9x1, gc9x1⟩ := k9''''''.at_ 1 (x := .slice B7 (dropBn x0 a1 a2).h.length e7) rfl
  obtain ⟨hc9x2, gc9x2⟩ := k9''''''.at_ 2 (x := .slice C7 (dropBn x0 a1 a2).w.length f7) rfl
  obtain ⟨hc9x3, gc9x3⟩ := k9''''''.at_ 3 (x := .slice D7 (dropBn x0 a1 a2).f.length g7) rfl
  obtain ⟨hc9x4, gc9x4⟩ := k9''''''.at_ 4 (x := .int .i64 (dropBn x0 a1 a2).n) rfl
  have l9 := k9''''''.lt
  obtain ⟨hc12x0, gc12x0⟩ := k12''''.at_ 0 (x := .slice A10 x0.l.length d10) rfl
  obtain ⟨hc12x1, gc12x1⟩ := k12''''.at_ 1 (x := .slice B10 x0.h.length e10) rfl
  obtain ⟨hc12x2, gc12x2⟩ := k12''''.at_ 2 (x := .slice C10 x0.w.length f10) rfl
  obtain ⟨hc12x3, gc12x3⟩ := k12''''.at_ 3 (x := .slice D10 x0.f.length g10) rfl
  obtain ⟨hc12x4, gc12x4⟩ := k12''''.at_ 4 (x := .int .i64 x0.n) rfl
  have l12 := k12''''.lt
  obtain ⟨hc16x0, gc16x0⟩ := k16''.at_ 0 (x := .slice A14 (dropBn x0 a1 a2).l.length d14) rfl
  obtain ⟨hc16x1, gc16x1⟩ := k16''.at_ 1 (x := .slice B14 (dropBn x0 a1 a2).h.length e14) rfl
  obtain ⟨hc16x2, gc16x2⟩ := k16''.at_ 2 (x := .slice C14 (dropBn x0 a1 a2).w.length f14) rfl
  obtain ⟨hc16x3, gc16x3⟩ := k16''.at_ 3 (x := .slice D14 (dropBn x0 a1 a2).f.length g14) rfl
  obtain ⟨hc16x4, gc16x4⟩ := k16''.at_ 4 (x := .int .i64 (dropBn x0 a1 a2).n) rfl
  have l16 := k16''.lt
  go_wp2_with fail
  refine (markBench _ _ _ _ x0 bs10 (1) _ ho10''''' (by omega) (by omega) (by omega)).mono ?_
  rintro e w22 ⟨rfl, hq22, hon22⟩
  clear hc1x0 gc1x0 hc1x1 gc1x1 hc1x2 gc1x2 hc1x3 gc1x3 hc1x4 gc1x4 l1 hc9x0 gc9x0 hc9x1 gc9x1 hc9x2 gc9x2 hc9x3 gc9x3 hc9x4 gc9x4 l9 hc12x0 gc12x0 hc12x1 gc12x1 hc12x2 gc12x2 hc12x3 gc12x3 hc12x4 gc12x4 l12 hc16x0 gc16x0 hc16x1 gc16x1 hc16x2 gc16x2 hc16x3 gc16x3 hc16x4 gc16x4 l16
  have sz23 := hon22.size
  try simp only [World.size_alloc] at sz23
  have hB'''''''''''' := hB'''''''''''.trans (hon22.below hB'''''''''''.size (fun b hb => by have := lo10 b hb; omega))
  clear hB'''''''''''
  have k1''''''''''' := k1''''''''''.only hon22 (fun hm => by have := lo10 _ hm; have := hi10 _ hm; omega)
  clear k1''''''''''
  have k9''''''' := k9''''''.only hon22 (fun hm => by have := lo10 _ hm; have := hi10 _ hm; omega)
  clear k9''''''
  have k12''''' := k12''''.only hon22 (fun hm => by have := lo10 _ hm; have := hi10 _ hm; omega)
  clear k12''''
  have k16''' := k16''.only hon22 (fun hm => by have := lo10 _ hm; have := hi10 _ hm; omega)
  clear k16''
  have ho4''''''''' := ho4''''''''.only hon22 (fun b hb hm => by have := lo10 b hm; have := hi10 b hm; have := lo4 b hb; have := hi4 b hb; omega)
  clear ho4''''''''
  have ho7'''''''' := ho7'''''''.only hon22 (fun b hb hm => by have := lo10 b hm; have := hi10 b hm; have := lo7 b hb; have := hi7 b hb; omega)
  clear ho7'''''''
  have ho14'''' := ho14'''.only hon22 (fun b hb hm => by have := lo10 b hm; have := hi10 b hm; have := lo14 b hb; have := hi14 b hb; omega)
  clear ho14'''
  obtain ⟨hc1x0, gc1x0⟩ := k1'''''''''''.at_ 0 (x := .slice Aa0 x0.l.length da0) rfl
  obtain ⟨hc1x1, gc1x1⟩ := k1'''''''''''.at_ 1 (x := .slice Ba0 x0.h.length ea0) rfl
  obtain ⟨hc1x2, gc1x2⟩ := k1'''''''''''.at_ 2 (x := .slice Ca0 x0.w.length fa0) rfl
  obtain ⟨hc1x3, gc1x3⟩ := k1'''''''''''.at_ 3 (x := .slice Da0 x0.f.length ga0) rfl
  obtain ⟨hc1x4, gc1x4⟩ := k1'''''''''''.at_ 4 (x := .int .i64 x0.n) rfl
  have l1 := k1'''''''''''.lt
  obtain ⟨hc9x0, gc9x0⟩ := k9'''''''.at_ 0 (x := .slice A7 (dropBn x0 a1 a2).l.length d7) rfl
  obtain ⟨hc9x1, gc9x1⟩ := k9'''''''.at_ 1 (x := .slice B7 (dropBn x0 a1 a2).h.length e7) rfl
  obtain ⟨hc9x2, gc9x2⟩ := k9'''''''.at_ 2 (x := .slice C7 (dropBn x0 a1 a2).w.length f7) rfl
  obtain ⟨hc9x3, gc9x3⟩ := k9'''''''.at_ 3 (x := .slice D7 (dropBn x0 a1 a2).f.length g7) rfl
  obtain ⟨hc9x4, gc9x4⟩ := k9'''''''.at_ 4 (x := .int .i64 (dropBn x0 a1 a2).n) rfl
  have l9 := k9'''''''.lt
  obtain ⟨hc12x0, gc12x0⟩ := k12'''''.at_ 0 (x := .slice A10 x0.l.length d10) rfl
  obtain ⟨hc12x1, gc12x1⟩ := k12'''''.at_ 1 (x := .slice B10 x0.h.length e10) rfl
  obtain ⟨hc12x2, gc12x2⟩ := k12'''''.at_ 2 (x := .slice C10 x0.w.length f10) rfl
  obtain ⟨hc12x3, gc12x3⟩ := k12'''''.at_ 3 (x := .slice D10 x0.f.length g10) rfl
  obtain ⟨hc12x4, gc12x4⟩ := k12'''''.at_ 4 (x := .int .i64 x0.n) rfl
  have l12 := k12'''''.lt
  obtain ⟨hc16x0, gc16x0⟩ := k16'''.at_ 0 (x := .slice A14 (dropBn x0 a1 a2).l.length d14) rfl
  obtain ⟨hc16x1, gc16x1⟩ := k16'''.at_ 1 (x := .slice B14 (dropBn x0 a1 a2).h.length e14) rfl
  obtain ⟨hc16x2, gc16x2⟩ := k16'''.at_ 2 (x := .slice C14 (dropBn x0 a1 a2).w.length f14) rfl
  obtain ⟨hc16x3, gc16x3⟩ := k16'''.at_ 3 (x := .slice D14 (dropBn x0 a1 a2).f.length g14) rfl
  obtain ⟨hc16x4, gc16x4⟩ := k16'''.at_ 4 (x := .int .i64 (dropBn x0 a1 a2).n) rfl
  have l16 := k16'''.lt
  go_wp2_with fail
  refine (eqBench _ _ _ _ _ _ _ _ ((dropBn x0 a1 a2)) ((dropBn x0 a1 a2)) _ ho14''''.rd ho7''''''''.rd).mono ?_
  rintro e w24 ⟨rfl, hb24⟩
  rw [decide_eq_true rfl]
  clear hc1x0 gc1x0 hc1x1 gc1x1 hc1x2 gc1x2 hc1x3 gc1x3 hc1x4 gc1x4 l1 hc9x0 gc9x0 hc9x1 gc9x1 hc9x2 gc9x2 hc9x3 gc9x3 hc9x4 gc9x4 l9 hc12x0 gc12x0 hc12x1 gc12x1 hc12x2 gc12x2 hc12x3 gc12x3 hc12x4 gc12x4 l12 hc16x0 gc16x0 hc16x1 gc16x1 hc16x2 gc16x2 hc16x3 gc16x3 hc16x4 gc16x4 l16
  have sz25 := hb24.size
  try simp only [World.size_alloc] at sz25
  have hB''''''''''''' := hB''''''''''''.trans (hb24.mono hB''''''''''''.size)
  clear hB''''''''''''
  have k1'''''''''''' := k1'''''''''''.below hb24 k1'''''''''''.lt
  clear k1'''''''''''
  have k9'''''''' := k9'''''''.below hb24 k9'''''''.lt
  clear k9'''''''
  have k12'''''' := k12'''''.below hb24 k12'''''.lt
  clear k12'''''
  have k16'''' := k16'''.below hb24 k16'''.lt
  clear k16'''
  have ho4'''''''''' := ho4'''''''''.below hb24
  clear ho4'''''''''
  have ho7''''''''' := ho7''''''''.below hb24
  clear ho7''''''''
  have hq22' := hq22.below hb24
  clear hq22
  have ho14''''' := ho14''''.below hb24
  clear ho14''''
  obtain ⟨hc1x0, gc1x0⟩ := k1''''''''''''.at_ 0 (x := .slice Aa0 x0.l.length da0) rfl
  obtain ⟨hc1x1, gc1x1⟩ := k1''''''''''''.at_ 1 (x := .slice Ba0 x0.h.length ea0) rfl
  obtain ⟨hc1x2, gc1x2⟩ := k1''''''''''''.at_ 2 (x := .slice Ca0 x0.w.length fa0) rfl
  obtain ⟨hc1x3, gc1x3⟩ := k1''''''''''''.at_ 3 (x := .slice Da0 x0.f.length ga0) rfl
  obtain ⟨hc1x4, gc1x4⟩ := k1''''''''''''.at_ 4 (x := .int .i64 x0.n) rfl
  have l1 := k1''''''''''''.lt
  obtain ⟨hc9x0, gc9x0⟩ := k9''''''''.at_ 0 (x := .slice A7 (dropBn x0 a1 a2).l.length d7) rfl
  obtain ⟨hc9x1, gc9x1⟩ := k9''''''''.at_ 1 (x := .slice B7 (dropBn x0 a1 a2).h.length e7) rfl
  obtain ⟨hc9x2, gc9x2⟩ := k9''''''''.at_ 2 (x := .slice C7 (dropBn x0 a1 a2).w.length f7) rfl
  obtain ⟨hc9x3, gc9x3⟩ := k9''''''''.at_ 3 (x := .slice D7 (dropBn x0 a1 a2).f.length g7) rfl
  obtain ⟨hc9x4, gc9x4⟩ := k9''''''''.at_ 4 (x := .int .i64 (dropBn x0 a1 a2).n) rfl
  have l9 := k9''''''''.lt
  obtain ⟨hc12x0, gc12x0⟩ := k12''''''.at_ 0 (x := .slice A10 x0.l.length d10) rfl
  obtain ⟨hc12x1, gc12x1⟩ := k12''''''.at_ 1 (x := .slice B10 x0.h.length e10) rfl
  obtain ⟨hc12x2, gc12x2⟩ := k12''''''.at_ 2 (x := .slice C10 x0.w.length f10) rfl
  obtain ⟨hc12x3, gc12x3⟩ := k12''''''.at_ 3 (x := .slice D10 x0.f.length g10) rfl
  obtain ⟨hc12x4, gc12x4⟩ := k12''''''.at_ 4 (x := .int .i64 x0.n) rfl
  have l12 := k12''''''.lt
  obtain ⟨hc16x0, gc16x0⟩ := k16''''.at_ 0 (x := .slice A14 (dropBn x0 a1 a2).l.length d14) rfl
  obtain ⟨hc16x1, gc16x1⟩ := k16''''.at_ 1 (x := .slice B14 (dropBn x0 a1 a2).h.length e14) rfl
  obtain ⟨hc16x2, gc16x2⟩ := k16''''.at_ 2 (x := .slice C14 (dropBn x0 a1 a2).w.length f14) rfl
  obtain ⟨hc16x3, gc16x3⟩ := k16''''.at_ 3 (x := .slice D14 (dropBn x0 a1 a2).f.length g14) rfl
  obtain ⟨hc16x4, gc16x4⟩ := k16''''.at_ 4 (x := .int .i64 (dropBn x0 a1 a2).n) rfl
  have l16 := k16''''.lt
  go_wp2_with fail
  refine (markBench _ _ _ _ (dropBn x0 a1 a2) bs14 (1) _ ho14''''' (by omega) (by omega) (by omega)).mono ?_
  rintro e w26 ⟨rfl, hq26, hon26⟩
  clear hc1x0 gc1x0 hc1x1 gc1x1 hc1x2 gc1x2 hc1x3 gc1x3 hc1x4 gc1x4 l1 hc9x0 gc9x0 hc9x1 gc9x1 hc9x2 gc9x2 hc9x3 gc9x3 hc9x4 gc9x4 l9 hc12x0 gc12x0 hc12x1 gc12x1 hc12x2 gc12x2 hc12x3 gc12x3 hc12x4 gc12x4 l12 hc16x0 gc16x0 hc16x1 gc16x1 hc16x2 gc16x2 hc16x3 gc16x3 hc16x4 gc16x4 l16
  have sz27 := hon26.size
  try simp only [World.size_alloc] at sz27
  have hB'''''''''''''' := hB'''''''''''''.trans (hon26.below hB'''''''''''''.size (fun b hb => by have := lo14 b hb; omega))
  clear hB'''''''''''''
  have k1''''''''''''' := k1''''''''''''.only hon26 (fun hm => by have := lo14 _ hm; have := hi14 _ hm; omega)
  clear k1''''''''''''
  have k9''''''''' := k9''''''''.only hon26 (fun hm => by have := lo14 _ hm; have := hi14 _ hm; omega)
  clear k9''''''''
  have k12''''''' := k12''''''.only hon26 (fun hm => by have := lo14 _ hm; have := hi14 _ hm; omega)
  clear k12''''''
  have k16''''' := k16''''.only hon26 (fun hm => by have := lo14 _ hm; have := hi14 _ hm; omega)
  clear k16''''
  have ho4''''''''''' := ho4''''''''''.only hon26 (fun b hb hm => by have := lo14 b hm; have := hi14 b hm; have := lo4 b hb; have := hi4 b hb; omega)
  clear ho4''''''''''
  have ho7'''''''''' := ho7'''''''''.only hon26 (fun b hb hm => by have := lo14 b hm; have := hi14 b hm; have := lo7 b hb; have := hi7 b hb; omega)
  clear ho7'''''''''
  have hq22'' := hq22'.only hon26 (fun b hb hm => by have := lo14 b hm; have := hi14 b hm; have := lo10 b hb; have := hi10 b hb; omega)
  clear hq22'
  obtain ⟨hc1x0, gc1x0⟩ := k1'''''''''''''.at_ 0 (x := .slice Aa0 x0.l.length da0) rfl
  obtain ⟨hc1x1, gc1x1⟩ := k1'''''''''''''.at_ 1 (x := .slice Ba0 x0.h.length ea0) rfl
  obtain ⟨hc1x2, gc1x2⟩ := k1'''''''''''''.at_ 2 (x := .slice Ca0 x0.w.length fa0) rfl
  obtain ⟨hc1x3, gc1x3⟩ := k1'''''''''''''.at_ 3 (x := .slice Da0 x0.f.length ga0) rfl
  obtain ⟨hc1x4, gc1x4⟩ := k1'''''''''''''.at_ 4 (x := .int .i64 x0.n) rfl
  have l1 := k1'''''''''''''.lt
  obtain ⟨hc9x0, gc9x0⟩ := k9'''''''''.at_ 0 (x := .slice A7 (dropBn x0 a1 a2).l.length d7) rfl
  obtain ⟨hc9x1, gc9x1⟩ := k9'''''''''.at_ 1 (x := .slice B7 (dropBn x0 a1 a2).h.length e7) rfl
  obtain ⟨hc9x2, gc9x2⟩ := k9'''''''''.at_ 2 (x := .slice C7 (dropBn x0 a1 a2).w.length f7) rfl
  obtain ⟨hc9x3, gc9x3⟩ := k9'''''''''.at_ 3 (x := .slice D7 (dropBn x0 a1 a2).f.length g7) rfl
  obtain ⟨hc9x4, gc9x4⟩ := k9'''''''''.at_ 4 (x := .int .i64 (dropBn x0 a1 a2).n) rfl
  have l9 := k9'''''''''.lt
  obtain ⟨hc12x0, gc12x0⟩ := k12'''''''.at_ 0 (x := .slice A10 x0.l.length d10) rfl
  obtain ⟨hc12x1, gc12x1⟩ := k12'''''''.at_ 1 (x := .slice B10 x0.h.length e10) rfl
  obtain ⟨hc12x2, gc12x2⟩ := k12'''''''.at_ 2 (x := .slice C10 x0.w.length f10) rfl
  obtain ⟨hc12x3, gc12x3⟩ := k12'''''''.at_ 3 (x := .slice D10 x0.f.length g10) rfl
  obtain ⟨hc12x4, gc12x4⟩ := k12'''''''.at_ 4 (x := .int .i64 x0.n) rfl
  have l12 := k12'''''''.lt
  obtain ⟨hc16x0, gc16x0⟩ := k16'''''.at_ 0 (x := .slice A14 (dropBn x0 a1 a2).l.length d14) rfl
  obtain ⟨hc16x1, gc16x1⟩ := k16'''''.at_ 1 (x := .slice B14 (dropBn x0 a1 a2).h.length e14) rfl
  obtain ⟨hc16x2, gc16x2⟩ := k16'''''.at_ 2 (x := .slice C14 (dropBn x0 a1 a2).w.length f14) rfl
  obtain ⟨hc16x3, gc16x3⟩ := k16'''''.at_ 3 (x := .slice D14 (dropBn x0 a1 a2).f.length g14) rfl
  obtain ⟨hc16x4, gc16x4⟩ := k16'''''.at_ 4 (x := .int .i64 (dropBn x0 a1 a2).n) rfl
  have l16 := k16'''''.lt
  go_wp2_with fail
  refine (heldBench _ _ _ _ (dropBn x0 a1 a2) (1) _ hq26.rd (by omega) (by omega) (by omega)).mono ?_
  rintro e w28 ⟨rfl, hb28⟩
  clear hc1x0 gc1x0 hc1x1 gc1x1 hc1x2 gc1x2 hc1x3 gc1x3 hc1x4 gc1x4 l1 hc9x0 gc9x0 hc9x1 gc9x1 hc9x2 gc9x2 hc9x3 gc9x3 hc9x4 gc9x4 l9 hc12x0 gc12x0 hc12x1 gc12x1 hc12x2 gc12x2 hc12x3 gc12x3 hc12x4 gc12x4 l12 hc16x0 gc16x0 hc16x1 gc16x1 hc16x2 gc16x2 hc16x3 gc16x3 hc16x4 gc16x4 l16
  have sz29 := hb28.size
  try simp only [World.size_alloc] at sz29
  have hB''''''''''''''' := hB''''''''''''''.trans (hb28.mono hB''''''''''''''.size)
  clear hB''''''''''''''
  have k1'''''''''''''' := k1'''''''''''''.below hb28 k1'''''''''''''.lt
  clear k1'''''''''''''
  have k9'''''''''' := k9'''''''''.below hb28 k9'''''''''.lt
  clear k9'''''''''
  have k12'''''''' := k12'''''''.below hb28 k12'''''''.lt
  clear k12'''''''
  have k16'''''' := k16'''''.below hb28 k16'''''.lt
  clear k16'''''
  have ho4'''''''''''' := ho4'''''''''''.below hb28
  clear ho4'''''''''''
  have ho7''''''''''' := ho7''''''''''.below hb28
  clear ho7''''''''''
  have hq22''' := hq22''.below hb28
  clear hq22''
  have hq26' := hq26.below hb28
  clear hq26
  obtain ⟨hc1x0, gc1x0⟩ := k1''''''''''''''.at_ 0 (x := .slice Aa0 x0.l.length da0) rfl
  obtain ⟨hc1x1, gc1x1⟩ := k1''''''''''''''.at_ 1 (x := .slice Ba0 x0.h.length ea0) rfl
  obtain ⟨hc1x2, gc1x2⟩ := k1''''''''''''''.at_ 2 (x := .slice Ca0 x0.w.length fa0) rfl
  obtain ⟨hc1x3, gc1x3⟩ := k1''''''''''''''.at_ 3 (x := .slice Da0 x0.f.length ga0) rfl
  obtain ⟨hc1x4, gc1x4⟩ := k1''''''''''''''.at_ 4 (x := .int .i64 x0.n) rfl
  have l1 := k1''''''''''''''.lt
  obtain ⟨hc9x0, gc9x0⟩ := k9''''''''''.at_ 0 (x := .slice A7 (dropBn x0 a1 a2).l.length d7) rfl
  obtain ⟨hc9x1, gc9x1⟩ := k9''''''''''.at_ 1 (x := .slice B7 (dropBn x0 a1 a2).h.length e7) rfl
  obtain ⟨hc9x2, gc9x2⟩ := k9''''''''''.at_ 2 (x := .slice C7 (dropBn x0 a1 a2).w.length f7) rfl
  obtain ⟨hc9x3, gc9x3⟩ := k9''''''''''.at_ 3 (x := .slice D7 (dropBn x0 a1 a2).f.length g7) rfl
  obtain ⟨hc9x4, gc9x4⟩ := k9''''''''''.at_ 4 (x := .int .i64 (dropBn x0 a1 a2).n) rfl
  have l9 := k9''''''''''.lt
  obtain ⟨hc12x0, gc12x0⟩ := k12''''''''.at_ 0 (x := .slice A10 x0.l.length d10) rfl
  obtain ⟨hc12x1, gc12x1⟩ := k12''''''''.at_ 1 (x := .slice B10 x0.h.length e10) rfl
  obtain ⟨hc12x2, gc12x2⟩ := k12''''''''.at_ 2 (x := .slice C10 x0.w.length f10) rfl
  obtain ⟨hc12x3, gc12x3⟩ := k12''''''''.at_ 3 (x := .slice D10 x0.f.length g10) rfl
  obtain ⟨hc12x4, gc12x4⟩ := k12''''''''.at_ 4 (x := .int .i64 x0.n) rfl
  have l12 := k12''''''''.lt
  obtain ⟨hc16x0, gc16x0⟩ := k16''''''.at_ 0 (x := .slice A14 (dropBn x0 a1 a2).l.length d14) rfl
  obtain ⟨hc16x1, gc16x1⟩ := k16''''''.at_ 1 (x := .slice B14 (dropBn x0 a1 a2).h.length e14) rfl
  obtain ⟨hc16x2, gc16x2⟩ := k16''''''.at_ 2 (x := .slice C14 (dropBn x0 a1 a2).w.length f14) rfl
  obtain ⟨hc16x3, gc16x3⟩ := k16''''''.at_ 3 (x := .slice D14 (dropBn x0 a1 a2).f.length g14) rfl
  obtain ⟨hc16x4, gc16x4⟩ := k16''''''.at_ 4 (x := .int .i64 (dropBn x0 a1 a2).n) rfl
  have l16 := k16''''''.lt
  go_wp2_with fail
  refine (toBench _ _ _ _ x0 _ (HAaB.out.below hB''''''''''''''') (by omega)).mono ?_
  rintro e w30 ⟨v30x0, v30x1, v30x2, v30x3, bs30, rfl, ho30, lo30, hb30⟩
  clear hc1x0 gc1x0 hc1x1 gc1x1 hc1x2 gc1x2 hc1x3 gc1x3 hc1x4 gc1x4 l1 hc9x0 gc9x0 hc9x1 gc9x1 hc9x2 gc9x2 hc9x3 gc9x3 hc9x4 gc9x4 l9 hc12x0 gc12x0 hc12x1 gc12x1 hc12x2 gc12x2 hc12x3 gc12x3 hc12x4 gc12x4 l12 hc16x0 gc16x0 hc16x1 gc16x1 hc16x2 gc16x2 hc16x3 gc16x3 hc16x4 gc16x4 l16
  have sz31 := hb30.size
  try simp only [World.size_alloc] at sz31
  have hB'''''''''''''''' := hB'''''''''''''''.trans (hb30.mono hB'''''''''''''''.size)
  clear hB'''''''''''''''
  have k1''''''''''''''' := k1''''''''''''''.below hb30 k1''''''''''''''.lt
  clear k1''''''''''''''
  have k9''''''''''' := k9''''''''''.below hb30 k9''''''''''.lt
  clear k9''''''''''
  have k12''''''''' := k12''''''''.below hb30 k12''''''''.lt
  clear k12''''''''
  have k16''''''' := k16''''''.below hb30 k16''''''.lt
  clear k16''''''
  have ho4''''''''''''' := ho4''''''''''''.below hb30
  clear ho4''''''''''''
  have ho7'''''''''''' := ho7'''''''''''.below hb30
  clear ho7'''''''''''
  have hq22'''' := hq22'''.below hb30
  clear hq22'''
  have hq26'' := hq26'.below hb30
  clear hq26'
  have hi30 := ho30.lt
  try simp only [World.size_alloc] at lo30
  obtain ⟨A30, d30, B30, e30, C30, f30, D30, g30, rfl, rfl, rfl, rfl⟩ := ho30.slices
  obtain ⟨hc1x0, gc1x0⟩ := k1'''''''''''''''.at_ 0 (x := .slice Aa0 x0.l.length da0) rfl
  obtain ⟨hc1x1, gc1x1⟩ := k1'''''''''''''''.at_ 1 (x := .slice Ba0 x0.h.length ea0) rfl
  obtain ⟨hc1x2, gc1x2⟩ := k1'''''''''''''''.at_ 2 (x := .slice Ca0 x0.w.length fa0) rfl
  obtain ⟨hc1x3, gc1x3⟩ := k1'''''''''''''''.at_ 3 (x := .slice Da0 x0.f.length ga0) rfl
  obtain ⟨hc1x4, gc1x4⟩ := k1'''''''''''''''.at_ 4 (x := .int .i64 x0.n) rfl
  have l1 := k1'''''''''''''''.lt
  obtain ⟨hc9x0, gc9x0⟩ := k9'''''''''''.at_ 0 (x := .slice A7 (dropBn x0 a1 a2).l.length d7) rfl
  obtain ⟨hc9x1, gc9x1⟩ := k9'''''''''''.at_ 1 (x := .slice B7 (dropBn x0 a1 a2).h.length e7) rfl
  obtain ⟨hc9x2, gc9x2⟩ := k9'''''''''''.at_ 2 (x := .slice C7 (dropBn x0 a1 a2).w.length f7) rfl
  obtain ⟨hc9x3, gc9x3⟩ := k9'''''''''''.at_ 3 (x := .slice D7 (dropBn x0 a1 a2).f.length g7) rfl
  obtain ⟨hc9x4, gc9x4⟩ := k9'''''''''''.at_ 4 (x := .int .i64 (dropBn x0 a1 a2).n) rfl
  have l9 := k9'''''''''''.lt
  obtain ⟨hc12x0, gc12x0⟩ := k12'''''''''.at_ 0 (x := .slice A10 x0.l.length d10) rfl
  obtain ⟨hc12x1, gc12x1⟩ := k12'''''''''.at_ 1 (x := .slice B10 x0.h.length e10) rfl
  obtain ⟨hc12x2, gc12x2⟩ := k12'''''''''.at_ 2 (x := .slice C10 x0.w.length f10) rfl
  obtain ⟨hc12x3, gc12x3⟩ := k12'''''''''.at_ 3 (x := .slice D10 x0.f.length g10) rfl
  obtain ⟨hc12x4, gc12x4⟩ := k12'''''''''.at_ 4 (x := .int .i64 x0.n) rfl
  have l12 := k12'''''''''.lt
  obtain ⟨hc16x0, gc16x0⟩ := k16'''''''.at_ 0 (x := .slice A14 (dropBn x0 a1 a2).l.length d14) rfl
  obtain ⟨hc16x1, gc16x1⟩ := k16'''''''.at_ 1 (x := .slice B14 (dropBn x0 a1 a2).h.length e14) rfl
  obtain ⟨hc16x2, gc16x2⟩ := k16'''''''.at_ 2 (x := .slice C14 (dropBn x0 a1 a2).w.length f14) rfl
  obtain ⟨hc16x3, gc16x3⟩ := k16'''''''.at_ 3 (x := .slice D14 (dropBn x0 a1 a2).f.length g14) rfl
  obtain ⟨hc16x4, gc16x4⟩ := k16'''''''.at_ 4 (x := .int .i64 (dropBn x0 a1 a2).n) rfl
  have l16 := k16'''''''.lt
  go_wp2_with fail
  refine (impl_DropHold _ _ _ _ x0 a1 a2 _ ho30.rd hS0 (by omega)).mono ?_
  rintro e w32 ⟨v33x0, v33x1, v33x2, v33x3, bs33, rfl, ho33, lo33, hb33⟩
  clear hc1x0 gc1x0 hc1x1 gc1x1 hc1x2 gc1x2 hc1x3 gc1x3 hc1x4 gc1x4 l1 hc9x0 gc9x0 hc9x1 gc9x1 hc9x2 gc9x2 hc9x3 gc9x3 hc9x4 gc9x4 l9 hc12x0 gc12x0 hc12x1 gc12x1 hc12x2 gc12x2 hc12x3 gc12x3 hc12x4 gc12x4 l12 hc16x0 gc16x0 hc16x1 gc16x1 hc16x2 gc16x2 hc16x3 gc16x3 hc16x4 gc16x4 l16
  have sz34 := hb33.size
  try simp only [World.size_alloc] at sz34
  have hB''''''''''''''''' := hB''''''''''''''''.trans (hb33.mono hB''''''''''''''''.size)
  clear hB''''''''''''''''
  have k1'''''''''''''''' := k1'''''''''''''''.below hb33 k1'''''''''''''''.lt
  clear k1'''''''''''''''
  have k9'''''''''''' := k9'''''''''''.below hb33 k9'''''''''''.lt
  clear k9'''''''''''
  have k12'''''''''' := k12'''''''''.below hb33 k12'''''''''.lt
  clear k12'''''''''
  have k16'''''''' := k16'''''''.below hb33 k16'''''''.lt
  clear k16'''''''
  have ho4'''''''''''''' := ho4'''''''''''''.below hb33
  clear ho4'''''''''''''
  have ho7''''''''''''' := ho7''''''''''''.below hb33
  clear ho7''''''''''''
  have hq22''''' := hq22''''.below hb33
  clear hq22''''
  have hq26''' := hq26''.below hb33
  clear hq26''
  have ho30' := ho30.below hb33
  clear ho30
  have hi33 := ho33.lt
  try simp only [World.size_alloc] at lo33
  obtain ⟨A33, d33, B33, e33, C33, f33, D33, g33, rfl, rfl, rfl, rfl⟩ := ho33.slices
  obtain ⟨hc1x0, gc1x0⟩ := k1''''''''''''''''.at_ 0 (x := .slice Aa0 x0.l.length da0) rfl
  obtain ⟨hc1x1, gc1x1⟩ := k1''''''''''''''''.at_ 1 (x := .slice Ba0 x0.h.length ea0) rfl
  obtain ⟨hc1x2, gc1x2⟩ := k1''''''''''''''''.at_ 2 (x := .slice Ca0 x0.w.length fa0) rfl
  obtain ⟨hc1x3, gc1x3⟩ := k1''''''''''''''''.at_ 3 (x := .slice Da0 x0.f.length ga0) rfl
  obtain ⟨hc1x4, gc1x4⟩ := k1''''''''''''''''.at_ 4 (x := .int .i64 x0.n) rfl
  have l1 := k1''''''''''''''''.lt
  obtain ⟨hc9x0, gc9x0⟩ := k9''''''''''''.at_ 0 (x := .slice A7 (dropBn x0 a1 a2).l.length d7) rfl
  obtain ⟨hc9x1, gc9x1⟩ := k9''''''''''''.at_ 1 (x := .slice B7 (dropBn x0 a1 a2).h.length e7) rfl
  obtain ⟨hc9x2, gc9x2⟩ := k9''''''''''''.at_ 2 (x := .slice C7 (dropBn x0 a1 a2).w.length f7) rfl
  obtain ⟨hc9x3, gc9x3⟩ := k9''''''''''''.at_ 3 (x := .slice D7 (dropBn x0 a1 a2).f.length g7) rfl
  obtain ⟨hc9x4, gc9x4⟩ := k9''''''''''''.at_ 4 (x := .int .i64 (dropBn x0 a1 a2).n) rfl
  have l9 := k9''''''''''''.lt
  obtain ⟨hc12x0, gc12x0⟩ := k12''''''''''.at_ 0 (x := .slice A10 x0.l.length d10) rfl
  obtain ⟨hc12x1, gc12x1⟩ := k12''''''''''.at_ 1 (x := .slice B10 x0.h.length e10) rfl
  obtain ⟨hc12x2, gc12x2⟩ := k12''''''''''.at_ 2 (x := .slice C10 x0.w.length f10) rfl
  obtain ⟨hc12x3, gc12x3⟩ := k12''''''''''.at_ 3 (x := .slice D10 x0.f.length g10) rfl
  obtain ⟨hc12x4, gc12x4⟩ := k12''''''''''.at_ 4 (x := .int .i64 x0.n) rfl
  have l12 := k12''''''''''.lt
  obtain ⟨hc16x0, gc16x0⟩ := k16''''''''.at_ 0 (x := .slice A14 (dropBn x0 a1 a2).l.length d14) rfl
  obtain ⟨hc16x1, gc16x1⟩ := k16''''''''.at_ 1 (x := .slice B14 (dropBn x0 a1 a2).h.length e14) rfl
  obtain ⟨hc16x2, gc16x2⟩ := k16''''''''.at_ 2 (x := .slice C14 (dropBn x0 a1 a2).w.length f14) rfl
  obtain ⟨hc16x3, gc16x3⟩ := k16''''''''.at_ 3 (x := .slice D14 (dropBn x0 a1 a2).f.length g14) rfl
  obtain ⟨hc16x4, gc16x4⟩ := k16''''''''.at_ 4 (x := .int .i64 (dropBn x0 a1 a2).n) rfl
  have l16 := k16''''''''.lt
  go_wp2_with fail
  clear hc1x0 gc1x0 hc1x1 gc1x1 hc1x2 gc1x2 hc1x3 gc1x3 hc1x4 gc1x4 l1 hc9x0 gc9x0 hc9x1 gc9x1 hc9x2 gc9x2 hc9x3 gc9x3 hc9x4 gc9x4 l9 hc12x0 gc12x0 hc12x1 gc12x1 hc12x2 gc12x2 hc12x3 gc12x3 hc12x4 gc12x4 l12 hc16x0 gc16x0 hc16x1 gc16x1 hc16x2 gc16x2 hc16x3 gc16x3 hc16x4 gc16x4 l16
  have k1''''''''''''''''' := k1''''''''''''''''.alloc (.cells #[.slice A33 (dropBn x0 a1 a2).l.length d33, .slice B33 (dropBn x0 a1 a2).h.length e33, .slice C33 (dropBn x0 a1 a2).w.length f33, .slice D33 (dropBn x0 a1 a2).f.length g33, .int .i64 (dropBn x0 a1 a2).n] 30)
  clear k1''''''''''''''''
  have k9''''''''''''' := k9''''''''''''.alloc (.cells #[.slice A33 (dropBn x0 a1 a2).l.length d33, .slice B33 (dropBn x0 a1 a2).h.length e33, .slice C33 (dropBn x0 a1 a2).w.length f33, .slice D33 (dropBn x0 a1 a2).f.length g33, .int .i64 (dropBn x0 a1 a2).n] 30)
  clear k9''''''''''''
  have k12''''''''''' := k12''''''''''.alloc (.cells #[.slice A33 (dropBn x0 a1 a2).l.length d33, .slice B33 (dropBn x0 a1 a2).h.length e33, .slice C33 (dropBn x0 a1 a2).w.length f33, .slice D33 (dropBn x0 a1 a2).f.length g33, .int .i64 (dropBn x0 a1 a2).n] 30)
  clear k12''''''''''
  have k16''''''''' := k16''''''''.alloc (.cells #[.slice A33 (dropBn x0 a1 a2).l.length d33, .slice B33 (dropBn x0 a1 a2).h.length e33, .slice C33 (dropBn x0 a1 a2).w.length f33, .slice D33 (dropBn x0 a1 a2).f.length g33, .int .i64 (dropBn x0 a1 a2).n] 30)
  clear k16''''''''
  have ho4''''''''''''''' := ho4''''''''''''''.below ((Below.refl _ _).alloc (Nat.le_refl _) (.cells #[.slice A33 (dropBn x0 a1 a2).l.length d33, .slice B33 (dropBn x0 a1 a2).h.length e33, .slice C33 (dropBn x0 a1 a2).w.length f33, .slice D33 (dropBn x0 a1 a2).f.length g33, .int .i64 (dropBn x0 a1 a2).n] 30))
  clear ho4''''''''''''''
  have ho7'''''''''''''' := ho7'''''''''''''.below ((Below.refl _ _).alloc (Nat.le_refl _) (.cells #[.slice A33 (dropBn x0 a1 a2).l.length d33, .slice B33 (dropBn x0 a1 a2).h.length e33, .slice C33 (dropBn x0 a1 a2).w.length f33, .slice D33 (dropBn x0 a1 a2).f.length g33, .int .i64 (dropBn x0 a1 a2).n] 30))
  clear ho7'''''''''''''
  have hq22'''''' := hq22'''''.below ((Below.refl _ _).alloc (Nat.le_refl _) (.cells #[.slice A33 (dropBn x0 a1 a2).l.length d33, .slice B33 (dropBn x0 a1 a2).h.length e33, .slice C33 (dropBn x0 a1 a2).w.length f33, .slice D33 (dropBn x0 a1 a2).f.length g33, .int .i64 (dropBn x0 a1 a2).n] 30))
  clear hq22'''''
  have hq26'''' := hq26'''.below ((Below.refl _ _).alloc (Nat.le_refl _) (.cells #[.slice A33 (dropBn x0 a1 a2).l.length d33, .slice B33 (dropBn x0 a1 a2).h.length e33, .slice C33 (dropBn x0 a1 a2).w.length f33, .slice D33 (dropBn x0 a1 a2).f.length g33, .int .i64 (dropBn x0 a1 a2).n] 30))
  clear hq26'''
  have ho30'' := ho30'.below ((Below.refl _ _).alloc (Nat.le_refl _) (.cells #[.slice A33 (dropBn x0 a1 a2).l.length d33, .slice B33 (dropBn x0 a1 a2).h.length e33, .slice C33 (dropBn x0 a1 a2).w.length f33, .slice D33 (dropBn x0 a1 a2).f.length g33, .int .i64 (dropBn x0 a1 a2).n] 30))
  clear ho30'
  have ho33' := ho33.below ((Below.refl _ _).alloc (Nat.le_refl _) (.cells #[.slice A33 (dropBn x0 a1 a2).l.length d33, .slice B33 (dropBn x0 a1 a2).h.length e33, .slice C33 (dropBn x0 a1 a2).w.length f33, .slice D33 (dropBn x0 a1 a2).f.length g33, .int .i64 (dropBn x0 a1 a2).n] 30))
  clear ho33
  have hB'''''''''''''''''' := hB'''''''''''''''''.alloc hB'''''''''''''''''.size (.cells #[.slice A33 (dropBn x0 a1 a2).l.length d33, .slice B33 (dropBn x0 a1 a2).h.length e33, .slice C33 (dropBn x0 a1 a2).w.length f33, .slice D33 (dropBn x0 a1 a2).f.length g33, .int .i64 (dropBn x0 a1 a2).n] 30)
  clear hB'''''''''''''''''
  have k35 := Bk.new w32 #[.slice A33 (dropBn x0 a1 a2).l.length d33, .slice B33 (dropBn x0 a1 a2).h.length e33, .slice C33 (dropBn x0 a1 a2).w.length f33, .slice D33 (dropBn x0 a1 a2).f.length g33, .int .i64 (dropBn x0 a1 a2).n] 30
  refine (eqBench _ _ _ _ _ _ _ _ ((dropBn x0 a1 a2)) ((dropBn x0 a1 a2)) _ ho33'.rd ho7''''''''''''''.rd).mono ?_
  rintro e w36 ⟨rfl, hb36⟩
  rw [decide_eq_true rfl]
  have sz37 := hb36.size
  try simp only [World.size_alloc] at sz37
  have hB''''''''''''''''''' := hB''''''''''''''''''.trans (hb36.mono hB''''''''''''''''''.size)
  clear hB''''''''''''''''''
  have k1'''''''''''''''''' := k1'''''''''''''''''.below hb36 k1'''''''''''''''''.lt
  clear k1'''''''''''''''''
  have k9'''''''''''''' := k9'''''''''''''.below hb36 k9'''''''''''''.lt
  clear k9'''''''''''''
  have k12'''''''''''' := k12'''''''''''.below hb36 k12'''''''''''.lt
  clear k12'''''''''''
  have k16'''''''''' := k16'''''''''.below hb36 k16'''''''''.lt
  clear k16'''''''''
  have k35' := k35.below hb36 k35.lt
  clear k35
  have ho4'''''''''''''''' := ho4'''''''''''''''.below hb36
  clear ho4'''''''''''''''
  have ho7''''''''''''''' := ho7''''''''''''''.below hb36
  clear ho7''''''''''''''
  have hq22''''''' := hq22''''''.below hb36
  clear hq22''''''
  have hq26''''' := hq26''''.below hb36
  clear hq26''''
  have ho30''' := ho30''.below hb36
  clear ho30''
  have ho33'' := ho33'.below hb36
  clear ho33'
  obtain ⟨hc1x0, gc1x0⟩ := k1''''''''''''''''''.at_ 0 (x := .slice Aa0 x0.l.length da0) rfl
  obtain ⟨hc1x1, gc1x1⟩ := k1''''''''''''''''''.at_ 1 (x := .slice Ba0 x0.h.length ea0) rfl
  obtain ⟨hc1x2, gc1x2⟩ := k1''''''''''''''''''.at_ 2 (x := .slice Ca0 x0.w.length fa0) rfl
  obtain ⟨hc1x3, gc1x3⟩ := k1''''''''''''''''''.at_ 3 (x := .slice Da0 x0.f.length ga0) rfl
  obtain ⟨hc1x4, gc1x4⟩ := k1''''''''''''''''''.at_ 4 (x := .int .i64 x0.n) rfl
  have l1 := k1''''''''''''''''''.lt
  obtain ⟨hc9x0, gc9x0⟩ := k9''''''''''''''.at_ 0 (x := .slice A7 (dropBn x0 a1 a2).l.length d7) rfl
  obtain ⟨hc9x1, gc9x1⟩ := k9''''''''''''''.at_ 1 (x := .slice B7 (dropBn x0 a1 a2).h.length e7) rfl
  obtain ⟨hc9x2, gc9x2⟩ := k9''''''''''''''.at_ 2 (x := .slice C7 (dropBn x0 a1 a2).w.length f7) rfl
  obtain ⟨hc9x3, gc9x3⟩ := k9''''''''''''''.at_ 3 (x := .slice D7 (dropBn x0 a1 a2).f.length g7) rfl
  obtain ⟨hc9x4, gc9x4⟩ := k9''''''''''''''.at_ 4 (x := .int .i64 (dropBn x0 a1 a2).n) rfl
  have l9 := k9''''''''''''''.lt
  obtain ⟨hc12x0, gc12x0⟩ := k12''''''''''''.at_ 0 (x := .slice A10 x0.l.length d10) rfl
  obtain ⟨hc12x1, gc12x1⟩ := k12''''''''''''.at_ 1 (x := .slice B10 x0.h.length e10) rfl
  obtain ⟨hc12x2, gc12x2⟩ := k12''''''''''''.at_ 2 (x := .slice C10 x0.w.length f10) rfl
  obtain ⟨hc12x3, gc12x3⟩ := k12''''''''''''.at_ 3 (x := .slice D10 x0.f.length g10) rfl
  obtain ⟨hc12x4, gc12x4⟩ := k12''''''''''''.at_ 4 (x := .int .i64 x0.n) rfl
  have l12 := k12''''''''''''.lt
  obtain ⟨hc16x0, gc16x0⟩ := k16''''''''''.at_ 0 (x := .slice A14 (dropBn x0 a1 a2).l.length d14) rfl
  obtain ⟨hc16x1, gc16x1⟩ := k16''''''''''.at_ 1 (x := .slice B14 (dropBn x0 a1 a2).h.length e14) rfl
  obtain ⟨hc16x2, gc16x2⟩ := k16''''''''''.at_ 2 (x := .slice C14 (dropBn x0 a1 a2).w.length f14) rfl
  obtain ⟨hc16x3, gc16x3⟩ := k16''''''''''.at_ 3 (x := .slice D14 (dropBn x0 a1 a2).f.length g14) rfl
  obtain ⟨hc16x4, gc16x4⟩ := k16''''''''''.at_ 4 (x := .int .i64 (dropBn x0 a1 a2).n) rfl
  have l16 := k16''''''''''.lt
  obtain ⟨hc35x0, gc35x0⟩ := k35'.at_ 0 (x := .slice A33 (dropBn x0 a1 a2).l.length d33) rfl
  obtain ⟨hc35x1, gc35x1⟩ := k35'.at_ 1 (x := .slice B33 (dropBn x0 a1 a2).h.length e33) rfl
  obtain ⟨hc35x2, gc35x2⟩ := k35'.at_ 2 (x := .slice C33 (dropBn x0 a1 a2).w.length f33) rfl
  obtain ⟨hc35x3, gc35x3⟩ := k35'.at_ 3 (x := .slice D33 (dropBn x0 a1 a2).f.length g33) rfl
  obtain ⟨hc35x4, gc35x4⟩ := k35'.at_ 4 (x := .int .i64 (dropBn x0 a1 a2).n) rfl
  have l35 := k35'.lt
  go_wp2_with fail
  refine (heldBench _ _ _ _ (dropBn x0 a1 a2) (1) _ hq26'''''.rd (by omega) (by omega) (by omega)).mono ?_
  rintro e w38 ⟨rfl, hb38⟩
  clear hc1x0 gc1x0 hc1x1 gc1x1 hc1x2 gc1x2 hc1x3 gc1x3 hc1x4 gc1x4 l1 hc9x0 gc9x0 hc9x1 gc9x1 hc9x2 gc9x2 hc9x3 gc9x3 hc9x4 gc9x4 l9 hc12x0 gc12x0 hc12x1 gc12x1 hc12x2 gc12x2 hc12x3 gc12x3 hc12x4 gc12x4 l12 hc16x0 gc16x0 hc16x1 gc16x1 hc16x2 gc16x2 hc16x3 gc16x3 hc16x4 gc16x4 l16 hc35x0 gc35x0 hc35x1 gc35x1 hc35x2 gc35x2 hc35x3 gc35x3 hc35x4 gc35x4 l35
  have sz39 := hb38.size
  try simp only [World.size_alloc] at sz39
  have hB'''''''''''''''''''' := hB'''''''''''''''''''.trans (hb38.mono hB'''''''''''''''''''.size)
  clear hB'''''''''''''''''''
  have k1''''''''''''''''''' := k1''''''''''''''''''.below hb38 k1''''''''''''''''''.lt
  clear k1''''''''''''''''''
  have k9''''''''''''''' := k9''''''''''''''.below hb38 k9''''''''''''''.lt
  clear k9''''''''''''''
  have k12''''''''''''' := k12''''''''''''.below hb38 k12''''''''''''.lt
  clear k12''''''''''''
  have k16''''''''''' := k16''''''''''.below hb38 k16''''''''''.lt
  clear k16''''''''''
  have k35'' := k35'.below hb38 k35'.lt
  clear k35'
  have ho4''''''''''''''''' := ho4''''''''''''''''.below hb38
  clear ho4''''''''''''''''
  have ho7'''''''''''''''' := ho7'''''''''''''''.below hb38
  clear ho7'''''''''''''''
  have hq22'''''''' := hq22'''''''.below hb38
  clear hq22'''''''
  have hq26'''''' := hq26'''''.below hb38
  clear hq26'''''
  have ho30'''' := ho30'''.below hb38
  clear ho30'''
  have ho33''' := ho33''.below hb38
  clear ho33''
  obtain ⟨hc1x0, gc1x0⟩ := k1'''''''''''''''''''.at_ 0 (x := .slice Aa0 x0.l.length da0) rfl
  obtain ⟨hc1x1, gc1x1⟩ := k1'''''''''''''''''''.at_ 1 (x := .slice Ba0 x0.h.length ea0) rfl
  obtain ⟨hc1x2, gc1x2⟩ := k1'''''''''''''''''''.at_ 2 (x := .slice Ca0 x0.w.length fa0) rfl
  obtain ⟨hc1x3, gc1x3⟩ := k1'''''''''''''''''''.at_ 3 (x := .slice Da0 x0.f.length ga0) rfl
  obtain ⟨hc1x4, gc1x4⟩ := k1'''''''''''''''''''.at_ 4 (x := .int .i64 x0.n) rfl
  have l1 := k1'''''''''''''''''''.lt
  obtain ⟨hc9x0, gc9x0⟩ := k9'''''''''''''''.at_ 0 (x := .slice A7 (dropBn x0 a1 a2).l.length d7) rfl
  obtain ⟨hc9x1, gc9x1⟩ := k9'''''''''''''''.at_ 1 (x := .slice B7 (dropBn x0 a1 a2).h.length e7) rfl
  obtain ⟨hc9x2, gc9x2⟩ := k9'''''''''''''''.at_ 2 (x := .slice C7 (dropBn x0 a1 a2).w.length f7) rfl
  obtain ⟨hc9x3, gc9x3⟩ := k9'''''''''''''''.at_ 3 (x := .slice D7 (dropBn x0 a1 a2).f.length g7) rfl
  obtain ⟨hc9x4, gc9x4⟩ := k9'''''''''''''''.at_ 4 (x := .int .i64 (dropBn x0 a1 a2).n) rfl
  have l9 := k9'''''''''''''''.lt
  obtain ⟨hc12x0, gc12x0⟩ := k12'''''''''''''.at_ 0 (x := .slice A10 x0.l.length d10) rfl
  obtain ⟨hc12x1, gc12x1⟩ := k12'''''''''''''.at_ 1 (x := .slice B10 x0.h.length e10) rfl
  obtain ⟨hc12x2, gc12x2⟩ := k12'''''''''''''.at_ 2 (x := .slice C10 x0.w.length f10) rfl
  obtain ⟨hc12x3, gc12x3⟩ := k12'''''''''''''.at_ 3 (x := .slice D10 x0.f.length g10) rfl
  obtain ⟨hc12x4, gc12x4⟩ := k12'''''''''''''.at_ 4 (x := .int .i64 x0.n) rfl
  have l12 := k12'''''''''''''.lt
  obtain ⟨hc16x0, gc16x0⟩ := k16'''''''''''.at_ 0 (x := .slice A14 (dropBn x0 a1 a2).l.length d14) rfl
  obtain ⟨hc16x1, gc16x1⟩ := k16'''''''''''.at_ 1 (x := .slice B14 (dropBn x0 a1 a2).h.length e14) rfl
  obtain ⟨hc16x2, gc16x2⟩ := k16'''''''''''.at_ 2 (x := .slice C14 (dropBn x0 a1 a2).w.length f14) rfl
  obtain ⟨hc16x3, gc16x3⟩ := k16'''''''''''.at_ 3 (x := .slice D14 (dropBn x0 a1 a2).f.length g14) rfl
  obtain ⟨hc16x4, gc16x4⟩ := k16'''''''''''.at_ 4 (x := .int .i64 (dropBn x0 a1 a2).n) rfl
  have l16 := k16'''''''''''.lt
  obtain ⟨hc35x0, gc35x0⟩ := k35''.at_ 0 (x := .slice A33 (dropBn x0 a1 a2).l.length d33) rfl
  obtain ⟨hc35x1, gc35x1⟩ := k35''.at_ 1 (x := .slice B33 (dropBn x0 a1 a2).h.length e33) rfl
  obtain ⟨hc35x2, gc35x2⟩ := k35''.at_ 2 (x := .slice C33 (dropBn x0 a1 a2).w.length f33) rfl
  obtain ⟨hc35x3, gc35x3⟩ := k35''.at_ 3 (x := .slice D33 (dropBn x0 a1 a2).f.length g33) rfl
  obtain ⟨hc35x4, gc35x4⟩ := k35''.at_ 4 (x := .int .i64 (dropBn x0 a1 a2).n) rfl
  have l35 := k35''.lt
  go_wp2_with fail
  go_ret
  exact ⟨rfl, hB''''''''''''''''''''⟩
set_option maxRecDepth 100000 in
theorem lift_DropHold (os : Os) (started : os.Started) (H : Type) (enc : TypeId × Value → H) :
    ReturnsInHanded {} Try.checked os 9 .any (Rows.fnExactDropHoldSpec.pre6 enc Try.prog Try.f9 Rows.fnExactDropHoldRow.domain false) (Rows.fnExactDropHoldSpec.post enc Try.prog Try.f9 false true false false) := by
  refine returnsInHanded_of_change (C := Try.checked) (by kernel_rfl) started (by kernel_rfl) Try.func9
    (ChangeSpec.witness6 (enc := enc) (C := Try.checked) false ⟨#[], #[.agg #[.slice none 0 0, .slice none 0 0, .slice none 0 0, .slice none 0 0, .int .i64 0], .int .i64 0, .int .i64 0], []⟩ 8 (by kernel_rfl) (by kernel_rfl) (by kernel_rfl) (by kernel_rfl)) ?_
  intro W base args ds gs before hval0 hW hcnd _
  have hval : ∀ (j : Nat) t v, Try.f9.params[j]? = some t → args[j]? = some v → Value.okWide Try.prog W .any base t v := hval0
  have hW' := hW
  obtain ⟨p, q, hA0, hV, rfl, hfz, hnd⟩ := hW
  have hA : DataW.TrodAll enc Try.prog W 0 (fun _ => true) true Try.f9.params.toList args.toList ds p := hA0
  rw [Try.params9] at hA hval
  obtain ⟨v0, vs0, d0, ds0, p0, q0, hargs, rfl, rfl, h0, r0⟩ := trodAll_cons hA
  obtain ⟨v1, vs1, d1, ds1, p1, q1, rfl, rfl, rfl, h1, r1⟩ := trodAll_cons r0
  obtain ⟨v2, vs2, d2, ds2, p2, q2, rfl, rfl, rfl, h2, r2⟩ := trodAll_cons r1
  obtain ⟨rfl, rfl, rfl⟩ := trodAll_nil r2
  obtain rfl : args = #[v0, v1, v2] := by cases args; simp_all
  obtain ⟨rfl, rfl⟩ := trodVars_none hV
  obtain ⟨c0, u0, s0, t0, x0, rfl, hR0, hI0⟩ := read_bench Try.underlying25 ⟨⟨rfl, rfl⟩, rfl, rfl, rfl⟩ (by decide +kernel) ⟨⟨by kernel_rfl, by kernel_rfl⟩, by kernel_rfl, by kernel_rfl, by kernel_rfl⟩ Try.underlying22 Try.underlying3 (by kernel_rfl) Try.underlying23 Try.underlying75 (by kernel_rfl) ⟨rfl, rfl⟩ (by decide +kernel) ⟨Try.underlying3, Try.underlying3⟩ Try.underlying22 Try.underlying22 Try.underlying3 (hval 0 _ v0 rfl rfl) h0
  obtain ⟨a1, rfl, rfl, rfl, w1⟩ := open_int Try.underlying3 (hval 1 _ v1 rfl rfl) h1
  obtain ⟨a2, rfl, rfl, rfl, w2⟩ := open_int Try.underlying3 (hval 2 _ v2 rfl rfl) h2
  refine (walk_DropHold _ _ _ _ x0 a1 a2 W hR0 hI0 w1 w2).mono fun e W' ⟨he, hb⟩ => ?_
  subst he
  exact ⟨_, rfl, post_law (by kernel_rfl) rfl rfl (by kernel_rfl) Try.underlying4 (of_decide_eq_true (by kernel_rfl)) hW' hb⟩
theorem FnExactDropHold_holds : Rows.FnExactDropHoldSaid :=
  OpenClaim.holds_of_wide 9 Try.f9 rfl rfl rfl rfl rfl rfl rfl ⟨rfl, rfl, rfl, rfl, rfl⟩ rfl rfl rfl rfl rfl (by kernel_rfl) Try.func9 (by kernel_rfl)
    (of_decide_eq_true (by kernel_rfl)) (by unfold Func.isWrapper; first | (rw [if_pos (by decide +kernel)]; kernel_rfl) | (rw [if_neg (by decide +kernel)]; exact ⟨rfl, rfl⟩))
    (fun os started H enc _ => lift_DropHold os started H enc)
#print axioms FnExactDropHold_holds
end Go.Proofs.Ytaokpfdjbpobpaa
