/- FnExactFreeSome answers true at every input: FreeSome answers as its model does, leaves its arguments alone and owns its answer. Conditions: none. -/
import Derived.Test.YtaokpfdjbpobpaaLaw
import Derived.Test.YtaokpfdjbpobpaaLaw9
import Derived.Test.YtaokpfdjbpobpaaMN
import Derived.Test.YtaokpfdjbpobpaaN23
import Derived.Deep.RegionHeld3
namespace Go.Proofs.Ytaokpfdjbpobpaa
set_option maxRecDepth 20000
set_option linter.unusedSimpArgs false
set_option linter.unusedVariables false
open Go.ChangeShapes Go.WideShapes Go.ChangeAt Go.RowKit
set_option linter.unusedVariables false
set_option maxHeartbeats 4000000 in
theorem walk_FreeSome (v0 u0 s0 r0 : Value) (x0 : Bn) (v1 : Value) (xs1 : List Int) (w : World) (hA0 : RdABn w v0 u0 s0 r0 x0) (hS0 : BnR x0) (hA1 : RdA w v1 1 xs1.length (ints xs1)) (hI1 : ∀ x ∈ xs1, (Lit.int .i64 x).wf = true) :
    Calls Try.prog 11 #[.agg #[v0, u0, s0, r0, .int .i64 x0.n], v1] w fun e w' => e = .returned (.bool true) ∧ Below w.heap.size w w' := by
  obtain ⟨Aa0, da0, Ba0, ea0, Ca0, fa0, Da0, ga0, rfl, rfl, rfl, rfl⟩ := hA0.slices
  have HAaB := Lib.hid hA0
  clear hA0
  obtain ⟨Aa1, da1, rfl, -, -, -, -⟩ := id hA1
  have HAaList := Lib.hid hA1
  clear hA1
  have hqc : cntBn x0 ≤ 2 * szBn x0 := by unfold cntBn szBn; omega
  have hqd : cntBn (freeBn x0 xs1) ≤ cntBn x0 := free_cnt x0 xs1
  have hB := Below.refl w.heap.size w
  by_cases hbig : 1048576 < xs1.length
  · go_enter Try.func11, Try.ntmps11
    go_wp2_with fail
    go_ret
    exact ⟨rfl, by first | exact Below.refl _ _ | exact (Below.refl _ _).alloc (Nat.le_refl _) _⟩
  go_enter Try.func11, Try.ntmps11
  go_wp2_with fail
  have hB' := hB.alloc hB.size (.cells #[.slice Aa0 x0.l.length da0, .slice Ba0 x0.h.length ea0, .slice Ca0 x0.w.length fa0, .slice Da0 x0.f.length ga0, .int .i64 x0.n] 25)
  clear hB
  have k1 := Bk.new w #[.slice Aa0 x0.l.length da0, .slice Ba0 x0.h.length ea0, .slice Ca0 x0.w.length fa0, .slice Da0 x0.f.length ga0, .int .i64 x0.n] 25
  refine (szBench _ _ _ _ x0 (1048576) _ (HAaB.out.below hB') (by omega) (by omega)).mono ?_
  rintro e w2 ⟨rfl, hb2⟩
  have sz3 := hb2.size
  try simp only [World.size_alloc] at sz3
  have hB'' := hB'.trans (hb2.mono hB'.size)
  clear hB'
  have k1' := k1.below hb2 k1.lt
  clear k1
  by_cases hn2 : (1048576 : Int) - (szBn x0) < 0
  · rw [show szF (szBn x0) (1048576) = -1 by unfold szF; rw [if_pos hn2]]
    go_wp2_with fail
    go_ret
    exact ⟨rfl, hB''⟩
  rw [show szF (szBn x0) (1048576) = 1048576 - (szBn x0) by unfold szF; rw [if_neg hn2]]
  obtain ⟨hc1x0, gc1x0⟩ := k1'.at_ 0 (x := .slice Aa0 x0.l.length da0) rfl
  obtain ⟨hc1x1, gc1x1⟩ := k1'.at_ 1 (x := .slice Ba0 x0.h.length ea0) rfl
  obtain ⟨hc1x2, gc1x2⟩ := k1'.at_ 2 (x := .slice Ca0 x0.w.length fa0) rfl
  obtain ⟨hc1x3, gc1x3⟩ := k1'.at_ 3 (x := .slice Da0 x0.f.length ga0) rfl
  obtain ⟨hc1x4, gc1x4⟩ := k1'.at_ 4 (x := .int .i64 x0.n) rfl
  have l1 := k1'.lt
  go_wp2_with fail
  refine (toBench _ _ _ _ x0 _ (HAaB.out.below hB'') (by omega)).mono ?_
  rintro e w4 ⟨v4x0, v4x1, v4x2, v4x3, bs4, rfl, ho4, lo4, hb4⟩
  clear hc1x0 gc1x0 hc1x1 gc1x1 hc1x2 gc1x2 hc1x3 gc1x3 hc1x4 gc1x4 l1
  have sz5 := hb4.size
  try simp only [World.size_alloc] at sz5
  have hB''' := hB''.trans (hb4.mono hB''.size)
  clear hB''
  have k1'' := k1'.below hb4 k1'.lt
  clear k1'
  have hi4 := ho4.lt
  try simp only [World.size_alloc] at lo4
  obtain ⟨A4, d4, B4, e4, C4, f4, D4, g4, rfl, rfl, rfl, rfl⟩ := ho4.slices
  obtain ⟨hc1x0, gc1x0⟩ := k1''.at_ 0 (x := .slice Aa0 x0.l.length da0) rfl
  obtain ⟨hc1x1, gc1x1⟩ := k1''.at_ 1 (x := .slice Ba0 x0.h.length ea0) rfl
  obtain ⟨hc1x2, gc1x2⟩ := k1''.at_ 2 (x := .slice Ca0 x0.w.length fa0) rfl
  obtain ⟨hc1x3, gc1x3⟩ := k1''.at_ 3 (x := .slice Da0 x0.f.length ga0) rfl
  obtain ⟨hc1x4, gc1x4⟩ := k1''.at_ 4 (x := .int .i64 x0.n) rfl
  have l1 := k1''.lt
  go_wp2_with fail
  refine (toIntS _ xs1 _ (HAaList.out.below hB''') (by omega)).mono ?_
  rintro e w6 ⟨v6x0, bs6, rfl, ho6, lo6, hb6⟩
  clear hc1x0 gc1x0 hc1x1 gc1x1 hc1x2 gc1x2 hc1x3 gc1x3 hc1x4 gc1x4 l1
  have sz7 := hb6.size
  try simp only [World.size_alloc] at sz7
  have hB'''' := hB'''.trans (hb6.mono hB'''.size)
  clear hB'''
  have k1''' := k1''.below hb6 k1''.lt
  clear k1''
  have ho4' := ho4.below hb6
  clear ho4
  have hi6 := ho6.lt
  try simp only [World.size_alloc] at lo6
  obtain ⟨A6, d6, rfl, -, -⟩ := ho6.slice
  obtain ⟨hc1x0, gc1x0⟩ := k1'''.at_ 0 (x := .slice Aa0 x0.l.length da0) rfl
  obtain ⟨hc1x1, gc1x1⟩ := k1'''.at_ 1 (x := .slice Ba0 x0.h.length ea0) rfl
  obtain ⟨hc1x2, gc1x2⟩ := k1'''.at_ 2 (x := .slice Ca0 x0.w.length fa0) rfl
  obtain ⟨hc1x3, gc1x3⟩ := k1'''.at_ 3 (x := .slice Da0 x0.f.length ga0) rfl
  obtain ⟨hc1x4, gc1x4⟩ := k1'''.at_ 4 (x := .int .i64 x0.n) rfl
  have l1 := k1'''.lt
  go_wp2_with fail
  refine (spec_FreeSome _ _ _ _ x0 _ xs1 _ ho4'.rd ho6.rd (by omega) (by omega)).mono ?_
  rintro e w8 ⟨v9x0, v9x1, v9x2, v9x3, bs9, rfl, ho9, lo9, hb9⟩
  clear hc1x0 gc1x0 hc1x1 gc1x1 hc1x2 gc1x2 hc1x3 gc1x3 hc1x4 gc1x4 l1
  have sz10 := hb9.size
  try simp only [World.size_alloc] at sz10
  have hB''''' := hB''''.trans (hb9.mono hB''''.size)
  clear hB''''
  have k1'''' := k1'''.below hb9 k1'''.lt
  clear k1'''
  have ho4'' := ho4'.below hb9
  clear ho4'
  have ho6' := ho6.below hb9
  clear ho6
  have hi9 := ho9.lt
  try simp only [World.size_alloc] at lo9
  obtain ⟨A9, d9, B9, e9, C9, f9, D9, g9, rfl, rfl, rfl, rfl⟩ := ho9.slices
  obtain ⟨hc1x0, gc1x0⟩ := k1''''.at_ 0 (x := .slice Aa0 x0.l.length da0) rfl
  obtain ⟨hc1x1, gc1x1⟩ := k1''''.at_ 1 (x := .slice Ba0 x0.h.length ea0) rfl
  obtain ⟨hc1x2, gc1x2⟩ := k1''''.at_ 2 (x := .slice Ca0 x0.w.length fa0) rfl
  obtain ⟨hc1x3, gc1x3⟩ := k1''''.at_ 3 (x := .slice Da0 x0.f.length ga0) rfl
  obtain ⟨hc1x4, gc1x4⟩ := k1''''.at_ 4 (x := .int .i64 x0.n) rfl
  have l1 := k1''''.lt
  go_wp2_with fail
  clear hc1x0 gc1x0 hc1x1 gc1x1 hc1x2 gc1x2 hc1x3 gc1x3 hc1x4 gc1x4 l1
  have k1''''' := k1''''.alloc (.cells #[.slice A9 (freeBn x0 xs1).l.length d9, .slice B9 (freeBn x0 xs1).h.length e9, .slice C9 (freeBn x0 xs1).w.length f9, .slice D9 (freeBn x0 xs1).f.length g9, .int .i64 (freeBn x0 xs1).n] 30)
  clear k1''''
  have ho4''' := ho4''.below ((Below.refl _ _).alloc (Nat.le_refl _) (.cells #[.slice A9 (freeBn x0 xs1).l.length d9, .slice B9 (freeBn x0 xs1).h.length e9, .slice C9 (freeBn x0 xs1).w.length f9, .slice D9 (freeBn x0 xs1).f.length g9, .int .i64 (freeBn x0 xs1).n] 30))
  clear ho4''
  have ho6'' := ho6'.below ((Below.refl _ _).alloc (Nat.le_refl _) (.cells #[.slice A9 (freeBn x0 xs1).l.length d9, .slice B9 (freeBn x0 xs1).h.length e9, .slice C9 (freeBn x0 xs1).w.length f9, .slice D9 (freeBn x0 xs1).f.length g9, .int .i64 (freeBn x0 xs1).n] 30))
  clear ho6'
  have ho9' := ho9.below ((Below.refl _ _).alloc (Nat.le_refl _) (.cells #[.slice A9 (freeBn x0 xs1).l.length d9, .slice B9 (freeBn x0 xs1).h.length e9, .slice C9 (freeBn x0 xs1).w.length f9, .slice D9 (freeBn x0 xs1).f.length g9, .int .i64 (freeBn x0 xs1).n] 30))
  clear ho9
  have hB'''''' := hB'''''.alloc hB'''''.size (.cells #[.slice A9 (freeBn x0 xs1).l.length d9, .slice B9 (freeBn x0 xs1).h.length e9, .slice C9 (freeBn x0 xs1).w.length f9, .slice D9 (freeBn x0 xs1).f.length g9, .int .i64 (freeBn x0 xs1).n] 30)
  clear hB'''''
  have k11 := Bk.new w8 #[.slice A9 (freeBn x0 xs1).l.length d9, .slice B9 (freeBn x0 xs1).h.length e9, .slice C9 (freeBn x0 xs1).w.length f9, .slice D9 (freeBn x0 xs1).f.length g9, .int .i64 (freeBn x0 xs1).n] 30
  refine (toBench _ _ _ _ x0 _ (HAaB.out.below hB'''''') (by omega)).mono ?_
  rintro e w12 ⟨v12x0, v12x1, v12x2, v12x3, bs12, rfl, ho12, lo12, hb12⟩
  have sz13 := hb12.size
  try simp only [World.size_alloc] at sz13
  have hB''''''' := hB''''''.trans (hb12.mono hB''''''.size)
  clear hB''''''
  have k1'''''' := k1'''''.below hb12 k1'''''.lt
  clear k1'''''
  have k11' := k11.below hb12 k11.lt
  clear k11
  have ho4'''' := ho4'''.below hb12
  clear ho4'''
  have ho6''' := ho6''.below hb12
  clear ho6''
  have ho9'' := ho9'.below hb12
  clear ho9'
  have hi12 := ho12.lt
  try simp only [World.size_alloc] at lo12
  obtain ⟨A12, d12, B12, e12, C12, f12, D12, g12, rfl, rfl, rfl, rfl⟩ := ho12.slices
  obtain ⟨hc1x0, gc1x0⟩ := k1''''''.at_ 0 (x := .slice Aa0 x0.l.length da0) rfl
  obtain ⟨hc1x1, gc1x1⟩ := k1''''''.at_ 1 (x := .slice Ba0 x0.h.length ea0) rfl
  obtain ⟨hc1x2, gc1x2⟩ := k1''''''.at_ 2 (x := .slice Ca0 x0.w.length fa0) rfl
  obtain ⟨hc1x3, gc1x3⟩ := k1''''''.at_ 3 (x := .slice Da0 x0.f.length ga0) rfl
  obtain ⟨hc1x4, gc1x4⟩ := k1''''''.at_ 4 (x := .int .i64 x0.n) rfl
  have l1 := k1''''''.lt
  obtain ⟨hc11x0, gc11x0⟩ := k11'.at_ 0 (x := .slice A9 (freeBn x0 xs1).l.length d9) rfl
  obtain ⟨hc11x1, gc11x1⟩ := k11'.at_ 1 (x := .slice B9 (freeBn x0 xs1).h.length e9) rfl
  obtain ⟨hc11x2, gc11x2⟩ := k11'.at_ 2 (x := .slice C9 (freeBn x0 xs1).w.length f9) rfl
  obtain ⟨hc11x3, gc11x3⟩ := k11'.at_ 3 (x := .slice D9 (freeBn x0 xs1).f.length g9) rfl
  obtain ⟨hc11x4, gc11x4⟩ := k11'.at_ 4 (x := .int .i64 (freeBn x0 xs1).n) rfl
  have l11 := k11'.lt
  go_wp2_with fail
  clear hc1x0 gc1x0 hc1x1 gc1x1 hc1x2 gc1x2 hc1x3 gc1x3 hc1x4 gc1x4 l1 hc11x0 gc11x0 hc11x1 gc11x1 hc11x2 gc11x2 hc11x3 gc11x3 hc11x4 gc11x4 l11
  have k1''''''' := k1''''''.alloc (.cells #[.slice A12 x0.l.length d12, .slice B12 x0.h.length e12, .slice C12 x0.w.length f12, .slice D12 x0.f.length g12, .int .i64 x0.n] 30)
  clear k1''''''
  have k11'' := k11'.alloc (.cells #[.slice A12 x0.l.length d12, .slice B12 x0.h.length e12, .slice C12 x0.w.length f12, .slice D12 x0.f.length g12, .int .i64 x0.n] 30)
  clear k11'
  have ho4''''' := ho4''''.below ((Below.refl _ _).alloc (Nat.le_refl _) (.cells #[.slice A12 x0.l.length d12, .slice B12 x0.h.length e12, .slice C12 x0.w.length f12, .slice D12 x0.f.length g12, .int .i64 x0.n] 30))
  clear ho4''''
  have ho6'''' := ho6'''.below ((Below.refl _ _).alloc (Nat.le_refl _) (.cells #[.slice A12 x0.l.length d12, .slice B12 x0.h.length e12, .slice C12 x0.w.length f12, .slice D12 x0.f.length g12, .int .i64 x0.n] 30))
  clear ho6'''
  have ho9''' := ho9''.below ((Below.refl _ _).alloc (Nat.le_refl _) (.cells #[.slice A12 x0.l.length d12, .slice B12 x0.h.length e12, .slice C12 x0.w.length f12, .slice D12 x0.f.length g12, .int .i64 x0.n] 30))
  clear ho9''
  have ho12' := ho12.below ((Below.refl _ _).alloc (Nat.le_refl _) (.cells #[.slice A12 x0.l.length d12, .slice B12 x0.h.length e12, .slice C12 x0.w.length f12, .slice D12 x0.f.length g12, .int .i64 x0.n] 30))
  clear ho12
  have hB'''''''' := hB'''''''.alloc hB'''''''.size (.cells #[.slice A12 x0.l.length d12, .slice B12 x0.h.length e12, .slice C12 x0.w.length f12, .slice D12 x0.f.length g12, .int .i64 x0.n] 30)
  clear hB'''''''
  have k14 := Bk.new w12 #[.slice A12 x0.l.length d12, .slice B12 x0.h.length e12, .slice C12 x0.w.length f12, .slice D12 x0.f.length g12, .int .i64 x0.n] 30
  refine (toIntS _ xs1 _ (HAaList.out.below hB'''''''') (by omega)).mono ?_
  rintro e w15 ⟨v15x0, bs15, rfl, ho15, lo15, hb15⟩
  have sz16 := hb15.size
  try simp only [World.size_alloc] at sz16
  have hB''''''''' := hB''''''''.trans (hb15.mono hB''''''''.size)
  clear hB''''''''
  have k1'''''''' := k1'''''''.below hb15 k1'''''''.lt
  clear k1'''''''
  have k11''' := k11''.below hb15 k11''.lt
  clear k11''
  have k14' := k14.below hb15 k14.lt
  clear k14
  have ho4'''''' := ho4'''''.below hb15
  clear ho4'''''
  have ho6''''' := ho6''''.below hb15
  clear ho6''''
  have ho9'''' := ho9'''.below hb15
  clear ho9'''
  have ho12'' := ho12'.below hb15
  clear ho12'
  have hi15 := ho15.lt
  try simp only [World.size_alloc] at lo15
  obtain ⟨A15, d15, rfl, -, -⟩ := ho15.slice
  obtain ⟨hc1x0, gc1x0⟩ := k1''''''''.at_ 0 (x := .slice Aa0 x0.l.length da0) rfl
  obtain ⟨hc1x1, gc1x1⟩ := k1''''''''.at_ 1 (x := .slice Ba0 x0.h.length ea0) rfl
  obtain ⟨hc1x2, gc1x2⟩ := k1''''''''.at_ 2 (x := .slice Ca0 x0.w.length fa0) rfl
  obtain ⟨hc1x3, gc1x3⟩ := k1''''''''.at_ 3 (x := .slice Da0 x0.f.length ga0) rfl
  obtain ⟨hc1x4, gc1x4⟩ := k1''''''''.at_ 4 (x := .int .i64 x0.n) rfl
  have l1 := k1''''''''.lt
  obtain ⟨hc11x0, gc11x0⟩ := k11'''.at_ 0 (x := .slice A9 (freeBn x0 xs1).l.length d9) rfl
  obtain ⟨hc11x1, gc11x1⟩ := k11'''.at_ 1 (x := .slice B9 (freeBn x0 xs1).h.length e9) rfl
  obtain ⟨hc11x2, gc11x2⟩ := k11'''.at_ 2 (x := .slice C9 (freeBn x0 xs1).w.length f9) rfl
  obtain ⟨hc11x3, gc11x3⟩ := k11'''.at_ 3 (x := .slice D9 (freeBn x0 xs1).f.length g9) rfl
  obtain ⟨hc11x4, gc11x4⟩ := k11'''.at_ 4 (x := .int .i64 (freeBn x0 xs1).n) rfl
  have l11 := k11'''.lt
  obtain ⟨hc14x0, gc14x0⟩ := k14'.at_ 0 (x := .slice A12 x0.l.length d12) rfl
  obtain ⟨hc14x1, gc14x1⟩ := k14'.at_ 1 (x := .slice B12 x0.h.length e12) rfl
  obtain ⟨hc14x2, gc14x2⟩ := k14'.at_ 2 (x := .slice C12 x0.w.length f12) rfl
  obtain ⟨hc14x3, gc14x3⟩ := k14'.at_ 3 (x := .slice D12 x0.f.length g12) rfl
  obtain ⟨hc14x4, gc14x4⟩ := k14'.at_ 4 (x := .int .i64 x0.n) rfl
  have l14 := k14'.lt
  go_wp2_with fail
  refine (impl_FreeSome _ _ _ _ x0 _ xs1 _ ho12''.rd hS0 ho15.rd (by omega) hI1 (by omega)).mono ?_
  rintro e w17 ⟨v18x0, v18x1, v18x2, v18x3, bs18, rfl, ho18, lo18, hb18⟩
  clear hc1x0 gc1x0 hc1x1 gc1x1 hc1x2 gc1x2 hc1x3 gc1x3 hc1x4 gc1x4 l1 hc11x0 gc11x0 hc11x1 gc11x1 hc11x2 gc11x2 hc11x3 gc11x3 hc11x4 gc11x4 l11 hc14x0 gc14x0 hc14x1 gc14x1 hc14x2 gc14x2 hc14x3 gc14x3 hc14x4 gc14x4 l14
  have sz19 := hb18.size
  try simp only [World.size_alloc] at sz19
  have hB'''''''''' := hB'''''''''.trans (hb18.mono hB'''''''''.size)
  clear hB'''''''''
  have k1''''''''' := k1''''''''.below hb18 k1''''''''.lt
  clear k1''''''''
  have k11'''' := k11'''.below hb18 k11'''.lt
  clear k11'''
  have k14'' := k14'.below hb18 k14'.lt
  clear k14'
  have ho4''''''' := ho4''''''.below hb18
  clear ho4''''''
  have ho6'''''' := ho6'''''.below hb18
  clear ho6'''''
  have ho9''''' := ho9''''.below hb18
  clear ho9''''
  have ho12''' := ho12''.below hb18
  clear ho12''
  have ho15' := ho15.below hb18
  clear ho15
  have hi18 := ho18.lt
  try simp only [World.size_alloc] at lo18
  obtain ⟨A18, d18, B18, e18, C18, f18, D18, g18, rfl, rfl, rfl, rfl⟩ := ho18.slices
  obtain ⟨hc1x0, gc1x0⟩ := k1'''''''''.at_ 0 (x := .slice Aa0 x0.l.length da0) rfl
  obtain ⟨hc1x1, gc1x1⟩ := k1'''''''''.at_ 1 (x := .slice Ba0 x0.h.length ea0) rfl
  obtain ⟨hc1x2, gc1x2⟩ := k1'''''''''.at_ 2 (x := .slice Ca0 x0.w.length fa0) rfl
  obtain ⟨hc1x3, gc1x3⟩ := k1'''''''''.at_ 3 (x := .slice Da0 x0.f.length ga0) rfl
  obtain ⟨hc1x4, gc1x4⟩ := k1'''''''''.at_ 4 (x := .int .i64 x0.n) rfl
  have l1 := k1'''''''''.lt
  obtain ⟨hc11x0, gc11x0⟩ := k11''''.at_ 0 (x := .slice A9 (freeBn x0 xs1).l.length d9) rfl
  obtain ⟨hc11x1, gc11x1⟩ := k11''''.at_ 1 (x := .slice B9 (freeBn x0 xs1).h.length e9) rfl
  obtain ⟨hc11x2, gc11x2⟩ := k11''''.at_ 2 (x := .slice C9 (freeBn x0 xs1).w.length f9) rfl
  obtain ⟨hc11x3, gc11x3⟩ := k11''''.at_ 3 (x := .slice D9 (freeBn x0 xs1).f.length g9) rfl
  obtain ⟨hc11x4, gc11x4⟩ := k11''''.at_ 4 (x := .int .i64 (freeBn x0 xs1).n) rfl
  have l11 := k11''''.lt
  obtain ⟨hc14x0, gc14x0⟩ := k14''.at_ 0 (x := .slice A12 x0.l.length d12) rfl
  obtain ⟨hc14x1, gc14x1⟩ := k14''.at_ 1 (x := .slice B12 x0.h.length e12) rfl
  obtain ⟨hc14x2, gc14x2⟩ := k14''.at_ 2 (x := .slice C12 x0.w.length f12) rfl
  obtain ⟨hc14x3, gc14x3⟩ := k14''.at_ 3 (x := .slice D12 x0.f.length g12) rfl
  obtain ⟨hc14x4, gc14x4⟩ := k14''.at_ 4 (x := .int .i64 x0.n) rfl
  have l14 := k14''.lt
  go_wp2_with fail
  clear hc1x0 gc1x0 hc1x1 gc1x1 hc1x2 gc1x2 hc1x3 gc1x3 hc1x4 gc1x4 l1 hc11x0 gc11x0 hc11x1 gc11x1 hc11x2 gc11x2 hc11x3 gc11x3 hc11x4 gc11x4 l11 hc14x0 gc14x0 hc14x1 gc14x1 hc14x2 gc14x2 hc14x3 gc14x3 hc14x4 gc14x4 l14
  have k1'''''''''' := k1'''''''''.alloc (.cells #[.slice A18 (freeBn x0 xs1).l.length d18, .slice B18 (freeBn x0 xs1).h.length e18, .slice C18 (freeBn x0 xs1).w.length f18, .slice D18 (freeBn x0 xs1).f.length g18, .int .i64 (freeBn x0 xs1).n] 30)
  clear k1'''''''''
  have k11''''' := k11''''.alloc (.cells #[.slice A18 (freeBn x0 xs1).l.length d18, .slice B18 (freeBn x0 xs1).h.length e18, .slice C18 (freeBn x0 xs1).w.length f18, .slice D18 (freeBn x0 xs1).f.length g18, .int .i64 (freeBn x0 xs1).n] 30)
  clear k11''''
  have k14''' := k14''.alloc (.cells #[.slice A18 (freeBn x0 xs1).l.length d18, .slice B18 (freeBn x0 xs1).h.length e18, .slice C18 (freeBn x0 xs1).w.length f18, .slice D18 (freeBn x0 xs1).f.length g18, .int .i64 (freeBn x0 xs1).n] 30)
  clear k14''
  have ho4'''''''' := ho4'''''''.below ((Below.refl _ _).alloc (Nat.le_refl _) (.cells #[.slice A18 (freeBn x0 xs1).l.length d18, .slice B18 (freeBn x0 xs1).h.length e18, .slice C18 (freeBn x0 xs1).w.length f18, .slice D18 (freeBn x0 xs1).f.length g18, .int .i64 (freeBn x0 xs1).n] 30))
  clear ho4'''''''
  have ho6''''''' := ho6''''''.below ((Below.refl _ _).alloc (Nat.le_refl _) (.cells #[.slice A18 (freeBn x0 xs1).l.length d18, .slice B18 (freeBn x0 xs1).h.length e18, .slice C18 (freeBn x0 xs1).w.length f18, .slice D18 (freeBn x0 xs1).f.length g18, .int .i64 (freeBn x0 xs1).n] 30))
  clear ho6''''''
  have ho9'''''' := ho9'''''.below ((Below.refl _ _).alloc (Nat.le_refl _) (.cells #[.slice A18 (freeBn x0 xs1).l.length d18, .slice B18 (freeBn x0 xs1).h.length e18, .slice C18 (freeBn x0 xs1).w.length f18, .slice D18 (freeBn x0 xs1).f.length g18, .int .i64 (freeBn x0 xs1).n] 30))
  clear ho9'''''
  have ho12'''' := ho12'''.below ((Below.refl _ _).alloc (Nat.le_refl _) (.cells #[.slice A18 (freeBn x0 xs1).l.length d18, .slice B18 (freeBn x0 xs1).h.length e18, .slice C18 (freeBn x0 xs1).w.length f18, .slice D18 (freeBn x0 xs1).f.length g18, .int .i64 (freeBn x0 xs1).n] 30))
  clear ho12'''
  have ho15'' := ho15'.below ((Below.refl _ _).alloc (Nat.le_refl _) (.cells #[.slice A18 (freeBn x0 xs1).l.length d18, .slice B18 (freeBn x0 xs1).h.length e18, .slice C18 (freeBn x0 xs1).w.length f18, .slice D18 (freeBn x0 xs1).f.length g18, .int .i64 (freeBn x0 xs1).n] 30))
  clear ho15'
  have ho18' := ho18.below ((Below.refl _ _).alloc (Nat.le_refl _) (.cells #[.slice A18 (freeBn x0 xs1).l.length d18, .slice B18 (freeBn x0 xs1).h.length e18, .slice C18 (freeBn x0 xs1).w.length f18, .slice D18 (freeBn x0 xs1).f.length g18, .int .i64 (freeBn x0 xs1).n] 30))
  clear ho18
  have hB''''''''''' := hB''''''''''.alloc hB''''''''''.size (.cells #[.slice A18 (freeBn x0 xs1).l.length d18, .slice B18 (freeBn x0 xs1).h.length e18, .slice C18 (freeBn x0 xs1).w.length f18, .slice D18 (freeBn x0 xs1).f.length g18, .int .i64 (freeBn x0 xs1).n] 30)
  clear hB''''''''''
  have k20 := Bk.new w17 #[.slice A18 (freeBn x0 xs1).l.length d18, .slice B18 (freeBn x0 xs1).h.length e18, .slice C18 (freeBn x0 xs1).w.length f18, .slice D18 (freeBn x0 xs1).f.length g18, .int .i64 (freeBn x0 xs1).n] 30
  refine (eqBench _ _ _ _ _ _ _ _ ((freeBn x0 xs1)) ((freeBn x0 xs1)) _ ho18'.rd ho9''''''.rd).mono ?_
  rintro e w21 ⟨rfl, hb21⟩
  rw [decide_eq_true rfl]
  have sz22 := hb21.size
  try simp only [World.size_alloc] at sz22
  have hB'''''''''''' := hB'''''''''''.trans (hb21.mono hB'''''''''''.size)
  clear hB'''''''''''
  have k1''''''''''' := k1''''''''''.below hb21 k1''''''''''.lt
  clear k1''''''''''
  have k11'''''' := k11'''''.below hb21 k11'''''.lt
  clear k11'''''
  have k14'''' := k14'''.below hb21 k14'''.lt
  clear k14'''
  have k20' := k20.below hb21 k20.lt
  clear k20
  have ho4''''''''' := ho4''''''''.below hb21
  clear ho4''''''''
  have ho6'''''''' := ho6'''''''.below hb21
  clear ho6'''''''
  have ho9''''''' := ho9''''''.below hb21
  clear ho9''''''
  have ho12''''' := ho12''''.below hb21
  clear ho12''''
  have ho15''' := ho15''.below hb21
  clear ho15''
  have ho18'' := ho18'.below hb21
  clear ho18'
  obtain ⟨hc1x0, gc1x0⟩ := k1'''''''''''.at_ 0 (x := .slice Aa0 x0.l.length da0) rfl
  obtain ⟨hc1x1, gc1x1⟩ := k1'''''''''''.at_ 1 (x := .slice Ba0 x0.h.length ea0) rfl
  obtain ⟨hc1x2, gc1x2⟩ := k1'''''''''''.at_ 2 (x := .slice Ca0 x0.w.length fa0) rfl
  obtain ⟨hc1x3, gc1x3⟩ := k1'''''''''''.at_ 3 (x := .slice Da0 x0.f.length ga0) rfl
  obtain ⟨hc1x4, gc1x4⟩ := k1'''''''''''.at_ 4 (x := .int .i64 x0.n) rfl
  have l1 := k1'''''''''''.lt
  obtain ⟨hc11x0, gc11x0⟩ := k11''''''.at_ 0 (x := .slice A9 (freeBn x0 xs1).l.length d9) rfl
  obtain ⟨hc11x1, gc11x1⟩ := k11''''''.at_ 1 (x := .slice B9 (freeBn x0 xs1).h.length e9) rfl
  obtain ⟨hc11x2, gc11x2⟩ := k11''''''.at_ 2 (x := .slice C9 (freeBn x0 xs1).w.length f9) rfl
  obtain ⟨hc11x3, gc11x3⟩ := k11''''''.at_ 3 (x := .slice D9 (freeBn x0 xs1).f.length g9) rfl
  obtain ⟨hc11x4, gc11x4⟩ := k11''''''.at_ 4 (x := .int .i64 (freeBn x0 xs1).n) rfl
  have l11 := k11''''''.lt
  obtain ⟨hc14x0, gc14x0⟩ := k14''''.at_ 0 (x := .slice A12 x0.l.length d12) rfl
  obtain ⟨hc14x1, gc14x1⟩ := k14''''.at_ 1 (x := .slice B12 x0.h.length e12) rfl
  obtain ⟨hc14x2, gc14x2⟩ := k14''''.at_ 2 (x := .slice C12 x0.w.length f12) rfl
  obtain ⟨hc14x3, gc14x3⟩ := k14''''.at_ 3 (x := .slice D12 x0.f.length g12) rfl
  obtain ⟨hc14x4, gc14x4⟩ := k14''''.at_ 4 (x := .int .i64 x0.n) rfl
  have l14 := k14''''.lt
  obtain ⟨hc20x0, gc20x0⟩ := k20'.at_ 0 (x := .slice A18 (freeBn x0 xs1).l.length d18) rfl
  obtain ⟨hc20x1, gc20x1⟩ := k20'.at_ 1 (x := .slice B18 (freeBn x0 xs1).h.length e18) rfl
  obtain ⟨hc20x2, gc20x2⟩ := k20'.at_ 2 (x := .slice C18 (freeBn x0 xs1).w.length f18) rfl
  obtain ⟨hc20x3, gc20x3⟩ := k20'.at_ 3 (x := .slice D18 (freeBn x0 xs1).f.length g18) rfl
  obtain ⟨hc20x4, gc20x4⟩ := k20'.at_ 4 (x := .int .i64 (freeBn x0 xs1).n) rfl
  have l20 := k20'.lt
  go_wp2_with fail
  clear hc1x0 gc1x0 hc1x1 gc1x1 hc1x2 gc1x2 hc1x3 gc1x3 hc1x4 gc1x4 l1 hc11x0 gc11x0 hc11x1 gc11x1 hc11x2 gc11x2 hc11x3 gc11x3 hc11x4 gc11x4 l11 hc14x0 gc14x0 hc14x1 gc14x1 hc14x2 gc14x2 hc14x3 gc14x3 hc14x4 gc14x4 l14 hc20x0 gc20x0 hc20x1 gc20x1 hc20x2 gc20x2 hc20x3 gc20x3 hc20x4 gc20x4 l20
  obtain ⟨hc1x0, gc1x0⟩ := k1'''''''''''.at_ 0 (x := .slice Aa0 x0.l.length da0) rfl
  obtain ⟨hc1x1, gc1x1⟩ := k1'''''''''''.at_ 1 (x := .slice Ba0 x0.h.length ea0) rfl
  obtain ⟨hc1x2, gc1x2⟩ := k1'''''''''''.at_ 2 (x := .slice Ca0 x0.w.length fa0) rfl
  obtain ⟨hc1x3, gc1x3⟩ := k1'''''''''''.at_ 3 (x := .slice Da0 x0.f.length ga0) rfl
  obtain ⟨hc1x4, gc1x4⟩ := k1'''''''''''.at_ 4 (x := .int .i64 x0.n) rfl
  have l1 := k1'''''''''''.lt
  obtain ⟨hc11x0, gc11x0⟩ := k11''''''.at_ 0 (x := .slice A9 (freeBn x0 xs1).l.length d9) rfl
  obtain ⟨hc11x1, gc11x1⟩ := k11''''''.at_ 1 (x := .slice B9 (freeBn x0 xs1).h.length e9) rfl
  obtain ⟨hc11x2, gc11x2⟩ := k11''''''.at_ 2 (x := .slice C9 (freeBn x0 xs1).w.length f9) rfl
  obtain ⟨hc11x3, gc11x3⟩ := k11''''''.at_ 3 (x := .slice D9 (freeBn x0 xs1).f.length g9) rfl
  obtain ⟨hc11x4, gc11x4⟩ := k11''''''.at_ 4 (x := .int .i64 (freeBn x0 xs1).n) rfl
  have l11 := k11''''''.lt
  obtain ⟨hc14x0, gc14x0⟩ := k14''''.at_ 0 (x := .slice A12 x0.l.length d12) rfl
  obtain ⟨hc14x1, gc14x1⟩ := k14''''.at_ 1 (x := .slice B12 x0.h.length e12) rfl
  obtain ⟨hc14x2, gc14x2⟩ := k14''''.at_ 2 (x := .slice C12 x0.w.length f12) rfl
  obtain ⟨hc14x3, gc14x3⟩ := k14''''.at_ 3 (x := .slice D12 x0.f.length g12) rfl
  obtain ⟨hc14x4, gc14x4⟩ := k14''''.at_ 4 (x := .int .i64 x0.n) rfl
  have l14 := k14''''.lt
  obtain ⟨hc20x0, gc20x0⟩ := k20'.at_ 0 (x := .slice A18 (freeBn x0 xs1).l.length d18) rfl
  obtain ⟨hc20x1, gc20x1⟩ := k20'.at_ 1 (x := .slice B18 (freeBn x0 xs1).h.length e18) rfl
  obtain ⟨hc20x2, gc20x2⟩ := k20'.at_ 2 (x := .slice C18 (freeBn x0 xs1).w.length f18) rfl
  obtain ⟨hc20x3, gc20x3⟩ := k20'.at_ 3 (x := .slice D18 (freeBn x0 xs1).f.length g18) rfl
  obtain ⟨hc20x4, gc20x4⟩ := k20'.at_ 4 (x := .int .i64 (freeBn x0 xs1).n) rfl
  have l20 := k20'.lt
  have HS24 : Hid (∀ W : World, Below w21.heap.size w21 W → Below w21.heap.size w21 W ∧ W.cell? ⟨w12.heap.size, 0, none⟩ = some (.slice A12 x0.l.length d12) ∧ W.cell? ⟨w12.heap.size, 1, none⟩ = some (.slice B12 x0.h.length e12) ∧ W.cell? ⟨w12.heap.size, 2, none⟩ = some (.slice C12 x0.w.length f12) ∧ W.cell? ⟨w12.heap.size, 3, none⟩ = some (.slice D12 x0.f.length g12) ∧ W.cell? ⟨w12.heap.size, 4, none⟩ = some (.int .i64 x0.n) ∧ W.cell? ⟨w.heap.size, 0, none⟩ = some (.slice Aa0 x0.l.length da0) ∧ W.cell? ⟨w.heap.size, 1, none⟩ = some (.slice Ba0 x0.h.length ea0) ∧ W.cell? ⟨w.heap.size, 2, none⟩ = some (.slice Ca0 x0.w.length fa0) ∧ W.cell? ⟨w.heap.size, 3, none⟩ = some (.slice Da0 x0.f.length ga0) ∧ W.cell? ⟨w.heap.size, 4, none⟩ = some (.int .i64 x0.n)) := Lib.hid fun W hW => ⟨hW, (hW.cell (p := ⟨w12.heap.size, 0, none⟩) k14''''.lt).trans hc14x0, (hW.cell (p := ⟨w12.heap.size, 1, none⟩) k14''''.lt).trans hc14x1, (hW.cell (p := ⟨w12.heap.size, 2, none⟩) k14''''.lt).trans hc14x2, (hW.cell (p := ⟨w12.heap.size, 3, none⟩) k14''''.lt).trans hc14x3, (hW.cell (p := ⟨w12.heap.size, 4, none⟩) k14''''.lt).trans hc14x4, (hW.cell (p := ⟨w.heap.size, 0, none⟩) k1'''''''''''.lt).trans hc1x0, (hW.cell (p := ⟨w.heap.size, 1, none⟩) k1'''''''''''.lt).trans hc1x1, (hW.cell (p := ⟨w.heap.size, 2, none⟩) k1'''''''''''.lt).trans hc1x2, (hW.cell (p := ⟨w.heap.size, 3, none⟩) k1'''''''''''.lt).trans hc1x3, (hW.cell (p := ⟨w.heap.size, 4, none⟩) k1'''''''''''.lt).trans hc1x4⟩
  have HhB____________ := Lib.hid hB''''''''''''
  have Hho4_________ := Lib.hid ho4'''''''''
  have Hho6________ := Lib.hid ho6''''''''
  have Hho9_______ := Lib.hid ho9'''''''
  have Hho12_____ := Lib.hid ho12'''''
  have Hho15___ := Lib.hid ho15'''
  have Hho18__ := Lib.hid ho18''
  go_region_held3 (fun W => Below w21.heap.size w21 W ∧ W.cell? ⟨w12.heap.size, 0, none⟩ = some (.slice A12 x0.l.length d12) ∧ W.cell? ⟨w12.heap.size, 1, none⟩ = some (.slice B12 x0.h.length e12) ∧ W.cell? ⟨w12.heap.size, 2, none⟩ = some (.slice C12 x0.w.length f12) ∧ W.cell? ⟨w12.heap.size, 3, none⟩ = some (.slice D12 x0.f.length g12) ∧ W.cell? ⟨w12.heap.size, 4, none⟩ = some (.int .i64 x0.n) ∧ W.cell? ⟨w.heap.size, 0, none⟩ = some (.slice Aa0 x0.l.length da0) ∧ W.cell? ⟨w.heap.size, 1, none⟩ = some (.slice Ba0 x0.h.length ea0) ∧ W.cell? ⟨w.heap.size, 2, none⟩ = some (.slice Ca0 x0.w.length fa0) ∧ W.cell? ⟨w.heap.size, 3, none⟩ = some (.slice Da0 x0.f.length ga0) ∧ W.cell? ⟨w.heap.size, 4, none⟩ = some (.int .i64 x0.n)) (first | (exact HS24.out _ (Below.refl _ _).drew) | (exact HS24.out _ (by assumption)))
    (first
      | (go_at_call 14; have hS := ‹Below w21.heap.size w21 _ ∧ _›.1; refine (toBench _ _ _ _ x0 _ (HAaB.out.below (HhB____________.out.trans (hS.mono HhB____________.out.size))) (by omega)).mono ?_; rintro e wa23 ⟨vv0, vv1, vv2, vv3, bsw, rfl, how, low, hbw23⟩; have HO23 := Lib.hid how; clear how low; have hS24x0 := hS.trans (hbw23.mono hS.size); clear hS)
      | (go_at_call 16; have hS := ‹Below w21.heap.size w21 _ ∧ _›.1; refine (eqBench _ _ _ _ _ _ _ _ (x0) (x0) _ (Hho12_____.out.below hS).rd HO23.out.rd).mono ?_; rintro e w23 ⟨rfl, hbe23⟩; have hS24x1 := hS.trans (hbe23.mono hS.size); clear hS))
  have hS24 := ‹Below w21.heap.size w21 _ ∧ _›.1
  clear HS24 HhB____________ Hho4_________ Hho6________ Hho9_______ Hho12_____ Hho15___ Hho18__
  clear hc1x0 gc1x0 hc1x1 gc1x1 hc1x2 gc1x2 hc1x3 gc1x3 hc1x4 gc1x4 l1 hc11x0 gc11x0 hc11x1 gc11x1 hc11x2 gc11x2 hc11x3 gc11x3 hc11x4 gc11x4 l11 hc14x0 gc14x0 hc14x1 gc14x1 hc14x2 gc14x2 hc14x3 gc14x3 hc14x4 gc14x4 l14 hc20x0 gc20x0 hc20x1 gc20x1 hc20x2 gc20x2 hc20x3 gc20x3 hc20x4 gc20x4 l20
  have sz25 := hS24.size
  try simp only [World.size_alloc] at sz25
  have hB''''''''''''' := hB''''''''''''.trans (hS24.mono hB''''''''''''.size)
  clear hB''''''''''''
  have k1'''''''''''' := k1'''''''''''.below hS24 k1'''''''''''.lt
  clear k1'''''''''''
  have k11''''''' := k11''''''.below hS24 k11''''''.lt
  clear k11''''''
  have k14''''' := k14''''.below hS24 k14''''.lt
  clear k14''''
  have k20'' := k20'.below hS24 k20'.lt
  clear k20'
  have ho4'''''''''' := ho4'''''''''.below hS24
  clear ho4'''''''''
  have ho6''''''''' := ho6''''''''.below hS24
  clear ho6''''''''
  have ho9'''''''' := ho9'''''''.below hS24
  clear ho9'''''''
  have ho12'''''' := ho12'''''.below hS24
  clear ho12'''''
  have ho15'''' := ho15'''.below hS24
  clear ho15'''
  have ho18''' := ho18''.below hS24
  clear ho18''
  clear hS24
  clear HO23
  obtain ⟨hc1x0, gc1x0⟩ := k1''''''''''''.at_ 0 (x := .slice Aa0 x0.l.length da0) rfl
  obtain ⟨hc1x1, gc1x1⟩ := k1''''''''''''.at_ 1 (x := .slice Ba0 x0.h.length ea0) rfl
  obtain ⟨hc1x2, gc1x2⟩ := k1''''''''''''.at_ 2 (x := .slice Ca0 x0.w.length fa0) rfl
  obtain ⟨hc1x3, gc1x3⟩ := k1''''''''''''.at_ 3 (x := .slice Da0 x0.f.length ga0) rfl
  obtain ⟨hc1x4, gc1x4⟩ := k1''''''''''''.at_ 4 (x := .int .i64 x0.n) rfl
  have l1 := k1''''''''''''.lt
  obtain ⟨hc11x0, gc11x0⟩ := k11'''''''.at_ 0 (x := .slice A9 (freeBn x0 xs1).l.length d9) rfl
  obtain ⟨hc11x1, gc11x1⟩ := k11'''''''.at_ 1 (x := .slice B9 (freeBn x0 xs1).h.length e9) rfl
  obtain ⟨hc11x2, gc11x2⟩ := k11'''''''.at_ 2 (x := .slice C9 (freeBn x0 xs1).w.length f9) rfl
  obtain ⟨hc11x3, gc11x3⟩ := k11'''''''.at_ 3 (x := .slice D9 (freeBn x0 xs1).f.length g9) rfl
  obtain ⟨hc11x4, gc11x4⟩ := k11'''''''.at_ 4 (x := .int .i64 (freeBn x0 xs1).n) rfl
  have l11 := k11'''''''.lt
  obtain ⟨hc14x0, gc14x0⟩ := k14'''''.at_ 0 (x := .slice A12 x0.l.length d12) rfl
  obtain ⟨hc14x1, gc14x1⟩ := k14'''''.at_ 1 (x := .slice B12 x0.h.length e12) rfl
  obtain ⟨hc14x2, gc14x2⟩ := k14'''''.at_ 2 (x := .slice C12 x0.w.length f12) rfl
  obtain ⟨hc14x3, gc14x3⟩ := k14'''''.at_ 3 (x := .slice D12 x0.f.length g12) rfl
  obtain ⟨hc14x4, gc14x4⟩ := k14'''''.at_ 4 (x := .int .i64 x0.n) rfl
  have l14 := k14'''''.lt
  obtain ⟨hc20x0, gc20x0⟩ := k20''.at_ 0 (x := .slice A18 (freeBn x0 xs1).l.length d18) rfl
  obtain ⟨hc20x1, gc20x1⟩ := k20''.at_ 1 (x := .slice B18 (freeBn x0 xs1).h.length e18) rfl
  obtain ⟨hc20x2, gc20x2⟩ := k20''.at_ 2 (x := .slice C18 (freeBn x0 xs1).w.length f18) rfl
  obtain ⟨hc20x3, gc20x3⟩ := k20''.at_ 3 (x := .slice D18 (freeBn x0 xs1).f.length g18) rfl
  obtain ⟨hc20x4, gc20x4⟩ := k20''.at_ 4 (x := .int .i64 (freeBn x0 xs1).n) rfl
  have l20 := k20''.lt
  go_wp2_with fail
  refine (toIntS _ xs1 _ (HAaList.out.below hB''''''''''''') (by omega)).mono ?_
  rintro e w26 ⟨v26x0, bs26, rfl, ho26, lo26, hb26⟩
  clear hc1x0 gc1x0 hc1x1 gc1x1 hc1x2 gc1x2 hc1x3 gc1x3 hc1x4 gc1x4 l1 hc11x0 gc11x0 hc11x1 gc11x1 hc11x2 gc11x2 hc11x3 gc11x3 hc11x4 gc11x4 l11 hc14x0 gc14x0 hc14x1 gc14x1 hc14x2 gc14x2 hc14x3 gc14x3 hc14x4 gc14x4 l14 hc20x0 gc20x0 hc20x1 gc20x1 hc20x2 gc20x2 hc20x3 gc20x3 hc20x4 gc20x4 l20
  have sz27 := hb26.size
  try simp only [World.size_alloc] at sz27
  have hB'''''''''''''' := hB'''''''''''''.trans (hb26.mono hB'''''''''''''.size)
  clear hB'''''''''''''
  have k1''''''''''''' := k1''''''''''''.below hb26 k1''''''''''''.lt
  clear k1''''''''''''
  have k11'''''''' := k11'''''''.below hb26 k11'''''''.lt
  clear k11'''''''
  have k14'''''' := k14'''''.below hb26 k14'''''.lt
  clear k14'''''
  have k20''' := k20''.below hb26 k20''.lt
  clear k20''
  have ho4''''''''''' := ho4''''''''''.below hb26
  clear ho4''''''''''
  have ho6'''''''''' := ho6'''''''''.below hb26
  clear ho6'''''''''
  have ho9''''''''' := ho9''''''''.below hb26
  clear ho9''''''''
  have ho12''''''' := ho12''''''.below hb26
  clear ho12''''''
  have ho15''''' := ho15''''.below hb26
  clear ho15''''
  have ho18'''' := ho18'''.below hb26
  clear ho18'''
  have hi26 := ho26.lt
  try simp only [World.size_alloc] at lo26
  obtain ⟨A26, d26, rfl, -, -⟩ := ho26.slice
  obtain ⟨hc1x0, gc1x0⟩ := k1'''''''''''''.at_ 0 (x := .slice Aa0 x0.l.length da0) rfl
  obtain ⟨hc1x1, gc1x1⟩ := k1'''''''''''''.at_ 1 (x := .slice Ba0 x0.h.length ea0) rfl
  obtain ⟨hc1x2, gc1x2⟩ := k1'''''''''''''.at_ 2 (x := .slice Ca0 x0.w.length fa0) rfl
  obtain ⟨hc1x3, gc1x3⟩ := k1'''''''''''''.at_ 3 (x := .slice Da0 x0.f.length ga0) rfl
  obtain ⟨hc1x4, gc1x4⟩ := k1'''''''''''''.at_ 4 (x := .int .i64 x0.n) rfl
  have l1 := k1'''''''''''''.lt
  obtain ⟨hc11x0, gc11x0⟩ := k11''''''''.at_ 0 (x := .slice A9 (freeBn x0 xs1).l.length d9) rfl
  obtain ⟨hc11x1, gc11x1⟩ := k11''''''''.at_ 1 (x := .slice B9 (freeBn x0 xs1).h.length e9) rfl
  obtain ⟨hc11x2, gc11x2⟩ := k11''''''''.at_ 2 (x := .slice C9 (freeBn x0 xs1).w.length f9) rfl
  obtain ⟨hc11x3, gc11x3⟩ := k11''''''''.at_ 3 (x := .slice D9 (freeBn x0 xs1).f.length g9) rfl
  obtain ⟨hc11x4, gc11x4⟩ := k11''''''''.at_ 4 (x := .int .i64 (freeBn x0 xs1).n) rfl
  have l11 := k11''''''''.lt
  obtain ⟨hc14x0, gc14x0⟩ := k14''''''.at_ 0 (x := .slice A12 x0.l.length d12) rfl
  obtain ⟨hc14x1, gc14x1⟩ := k14''''''.at_ 1 (x := .slice B12 x0.h.length e12) rfl
  obtain ⟨hc14x2, gc14x2⟩ := k14''''''.at_ 2 (x := .slice C12 x0.w.length f12) rfl
  obtain ⟨hc14x3, gc14x3⟩ := k14''''''.at_ 3 (x := .slice D12 x0.f.length g12) rfl
  obtain ⟨hc14x4, gc14x4⟩ := k14''''''.at_ 4 (x := .int .i64 x0.n) rfl
  have l14 := k14''''''.lt
  obtain ⟨hc20x0, gc20x0⟩ := k20'''.at_ 0 (x := .slice A18 (freeBn x0 xs1).l.length d18) rfl
  obtain ⟨hc20x1, gc20x1⟩ := k20'''.at_ 1 (x := .slice B18 (freeBn x0 xs1).h.length e18) rfl
  obtain ⟨hc20x2, gc20x2⟩ := k20'''.at_ 2 (x := .slice C18 (freeBn x0 xs1).w.length f18) rfl
  obtain ⟨hc20x3, gc20x3⟩ := k20'''.at_ 3 (x := .slice D18 (freeBn x0 xs1).f.length g18) rfl
  obtain ⟨hc20x4, gc20x4⟩ := k20'''.at_ 4 (x := .int .i64 (freeBn x0 xs1).n) rfl
  have l20 := k20'''.lt
  go_wp2_with fail
  refine (eqIntSB _ _ (xs1) (xs1) _ ho15'''''.rd ho26.rd).mono ?_
  rintro e w28 ⟨rfl, hb28⟩
  rw [decide_eq_true rfl]
  clear hc1x0 gc1x0 hc1x1 gc1x1 hc1x2 gc1x2 hc1x3 gc1x3 hc1x4 gc1x4 l1 hc11x0 gc11x0 hc11x1 gc11x1 hc11x2 gc11x2 hc11x3 gc11x3 hc11x4 gc11x4 l11 hc14x0 gc14x0 hc14x1 gc14x1 hc14x2 gc14x2 hc14x3 gc14x3 hc14x4 gc14x4 l14 hc20x0 gc20x0 hc20x1 gc20x1 hc20x2 gc20x2 hc20x3 gc20x3 hc20x4 gc20x4 l20
  have sz29 := hb28.size
  try simp only [World.size_alloc] at sz29
  have hB''''''''''''''' := hB''''''''''''''.trans (hb28.mono hB''''''''''''''.size)
  clear hB''''''''''''''
  have k1'''''''''''''' := k1'''''''''''''.below hb28 k1'''''''''''''.lt
  clear k1'''''''''''''
  have k11''''''''' := k11''''''''.below hb28 k11''''''''.lt
  clear k11''''''''
  have k14''''''' := k14''''''.below hb28 k14''''''.lt
  clear k14''''''
  have k20'''' := k20'''.below hb28 k20'''.lt
  clear k20'''
  have ho4'''''''''''' := ho4'''''''''''.below hb28
  clear ho4'''''''''''
  have ho6''''''''''' := ho6''''''''''.below hb28
  clear ho6''''''''''
  have ho9'''''''''' := ho9'''''''''.below hb28
  clear ho9'''''''''
  have ho12'''''''' := ho12'''''''.below hb28
  clear ho12'''''''
  have ho15'''''' := ho15'''''.below hb28
  clear ho15'''''
  have ho18''''' := ho18''''.below hb28
  clear ho18''''
  have ho26' := ho26.below hb28
  clear ho26
  obtain ⟨hc1x0, gc1x0⟩ := k1''''''''''''''.at_ 0 (x := .slice Aa0 x0.l.length da0) rfl
  obtain ⟨hc1x1, gc1x1⟩ := k1''''''''''''''.at_ 1 (x := .slice Ba0 x0.h.length ea0) rfl
  obtain ⟨hc1x2, gc1x2⟩ := k1''''''''''''''.at_ 2 (x := .slice Ca0 x0.w.length fa0) rfl
  obtain ⟨hc1x3, gc1x3⟩ := k1''''''''''''''.at_ 3 (x := .slice Da0 x0.f.length ga0) rfl
  obtain ⟨hc1x4, gc1x4⟩ := k1''''''''''''''.at_ 4 (x := .int .i64 x0.n) rfl
  have l1 := k1''''''''''''''.lt
  obtain ⟨hc11x0, gc11x0⟩ := k11'''''''''.at_ 0 (x := .slice A9 (freeBn x0 xs1).l.length d9) rfl
  obtain ⟨hc11x1, gc11x1⟩ := k11'''''''''.at_ 1 (x := .slice B9 (freeBn x0 xs1).h.length e9) rfl
  obtain ⟨hc11x2, gc11x2⟩ := k11'''''''''.at_ 2 (x := .slice C9 (freeBn x0 xs1).w.length f9) rfl
  obtain ⟨hc11x3, gc11x3⟩ := k11'''''''''.at_ 3 (x := .slice D9 (freeBn x0 xs1).f.length g9) rfl
  obtain ⟨hc11x4, gc11x4⟩ := k11'''''''''.at_ 4 (x := .int .i64 (freeBn x0 xs1).n) rfl
  have l11 := k11'''''''''.lt
  obtain ⟨hc14x0, gc14x0⟩ := k14'''''''.at_ 0 (x := .slice A12 x0.l.length d12) rfl
  obtain ⟨hc14x1, gc14x1⟩ := k14'''''''.at_ 1 (x := .slice B12 x0.h.length e12) rfl
  obtain ⟨hc14x2, gc14x2⟩ := k14'''''''.at_ 2 (x := .slice C12 x0.w.length f12) rfl
  obtain ⟨hc14x3, gc14x3⟩ := k14'''''''.at_ 3 (x := .slice D12 x0.f.length g12) rfl
  obtain ⟨hc14x4, gc14x4⟩ := k14'''''''.at_ 4 (x := .int .i64 x0.n) rfl
  have l14 := k14'''''''.lt
  obtain ⟨hc20x0, gc20x0⟩ := k20''''.at_ 0 (x := .slice A18 (freeBn x0 xs1).l.length d18) rfl
  obtain ⟨hc20x1, gc20x1⟩ := k20''''.at_ 1 (x := .slice B18 (freeBn x0 xs1).h.length e18) rfl
  obtain ⟨hc20x2, gc20x2⟩ := k20''''.at_ 2 (x := .slice C18 (freeBn x0 xs1).w.length f18) rfl
  obtain ⟨hc20x3, gc20x3⟩ := k20''''.at_ 3 (x := .slice D18 (freeBn x0 xs1).f.length g18) rfl
  obtain ⟨hc20x4, gc20x4⟩ := k20''''.at_ 4 (x := .int .i64 (freeBn x0 xs1).n) rfl
  have l20 := k20''''.lt
  go_wp2_with fail
  refine (markBench _ _ _ _ x0 bs12 (1) _ ho12'''''''' (by omega) (by omega) (by omega)).mono ?_
  rintro e w30 ⟨rfl, hq30, hon30⟩
  clear hc1x0 gc1x0 hc1x1 gc1x1 hc1x2 gc1x2 hc1x3 gc1x3 hc1x4 gc1x4 l1 hc11x0 gc11x0 hc11x1 gc11x1 hc11x2 gc11x2 hc11x3 gc11x3 hc11x4 gc11x4 l11 hc14x0 gc14x0 hc14x1 gc14x1 hc14x2 gc14x2 hc14x3 gc14x3 hc14x4 gc14x4 l14 hc20x0 gc20x0 hc20x1 gc20x1 hc20x2 gc20x2 hc20x3 gc20x3 hc20x4 gc20x4 l20
  have sz31 := hon30.size
  try simp only [World.size_alloc] at sz31
  have hB'''''''''''''''' := hB'''''''''''''''.trans (hon30.below hB'''''''''''''''.size (fun b hb => by have := lo12 b hb; omega))
  clear hB'''''''''''''''
  have k1''''''''''''''' := k1''''''''''''''.only hon30 (fun hm => by have := lo12 _ hm; have := hi12 _ hm; omega)
  clear k1''''''''''''''
  have k11'''''''''' := k11'''''''''.only hon30 (fun hm => by have := lo12 _ hm; have := hi12 _ hm; omega)
  clear k11'''''''''
  have k14'''''''' := k14'''''''.only hon30 (fun hm => by have := lo12 _ hm; have := hi12 _ hm; omega)
  clear k14'''''''
  have k20''''' := k20''''.only hon30 (fun hm => by have := lo12 _ hm; have := hi12 _ hm; omega)
  clear k20''''
  have ho4''''''''''''' := ho4''''''''''''.only hon30 (fun b hb hm => by have := lo12 b hm; have := hi12 b hm; have := lo4 b hb; have := hi4 b hb; omega)
  clear ho4''''''''''''
  have ho6'''''''''''' := ho6'''''''''''.only hon30 (fun b hb hm => by have := lo12 b hm; have := hi12 b hm; have := lo6 b hb; have := hi6 b hb; omega)
  clear ho6'''''''''''
  have ho9''''''''''' := ho9''''''''''.only hon30 (fun b hb hm => by have := lo12 b hm; have := hi12 b hm; have := lo9 b hb; have := hi9 b hb; omega)
  clear ho9''''''''''
  have ho15''''''' := ho15''''''.only hon30 (fun b hb hm => by have := lo12 b hm; have := hi12 b hm; have := lo15 b hb; have := hi15 b hb; omega)
  clear ho15''''''
  have ho18'''''' := ho18'''''.only hon30 (fun b hb hm => by have := lo12 b hm; have := hi12 b hm; have := lo18 b hb; have := hi18 b hb; omega)
  clear ho18'''''
  have ho26'' := ho26'.only hon30 (fun b hb hm => by have := lo12 b hm; have := hi12 b hm; have := lo26 b hb; have := hi26 b hb; omega)
  clear ho26'
  obtain ⟨hc1x0, gc1x0⟩ := k1'''''''''''''''.at_ 0 (x := .slice Aa0 x0.l.length da0) rfl
  obtain ⟨hc1x1, gc1x1⟩ := k1'''''''''''''''.at_ 1 (x := .slice Ba0 x0.h.length ea0) rfl
  obtain ⟨hc1x2, gc1x2⟩ := k1'''''''''''''''.at_ 2 (x := .slice Ca0 x0.w.length fa0) rfl
  obtain ⟨hc1x3, gc1x3⟩ := k1'''''''''''''''.at_ 3 (x := .slice Da0 x0.f.length ga0) rfl
  obtain ⟨hc1x4, gc1x4⟩ := k1'''''''''''''''.at_ 4 (x := .int .i64 x0.n) rfl
  have l1 := k1'''''''''''''''.lt
  obtain ⟨hc11x0, gc11x0⟩ := k11''''''''''.at_ 0 (x := .slice A9 (freeBn x0 xs1).l.length d9) rfl
  obtain ⟨hc11x1, gc11x1⟩ := k11''''''''''.at_ 1 (x := .slice B9 (freeBn x0 xs1).h.length e9) rfl
  obtain ⟨hc11x2, gc11x2⟩ := k11''''''''''.at_ 2 (x := .slice C9 (freeBn x0 xs1).w.length f9) rfl
  obtain ⟨hc11x3, gc11x3⟩ := k11''''''''''.at_ 3 (x := .slice D9 (freeBn x0 xs1).f.length g9) rfl
  obtain ⟨hc11x4, gc11x4⟩ := k11''''''''''.at_ 4 (x := .int .i64 (freeBn x0 xs1).n) rfl
  have l11 := k11''''''''''.lt
  obtain ⟨hc14x0, gc14x0⟩ := k14''''''''.at_ 0 (x := .slice A12 x0.l.length d12) rfl
  obtain ⟨hc14x1, gc14x1⟩ := k14''''''''.at_ 1 (x := .slice B12 x0.h.length e12) rfl
  obtain ⟨hc14x2, gc14x2⟩ := k14''''''''.at_ 2 (x := .slice C12 x0.w.length f12) rfl
  obtain ⟨hc14x3, gc14x3⟩ := k14''''''''.at_ 3 (x := .slice D12 x0.f.length g12) rfl
  obtain ⟨hc14x4, gc14x4⟩ := k14''''''''.at_ 4 (x := .int .i64 x0.n) rfl
  have l14 := k14''''''''.lt
  obtain ⟨hc20x0, gc20x0⟩ := k20'''''.at_ 0 (x := .slice A18 (freeBn x0 xs1).l.length d18) rfl
  obtain ⟨hc20x1, gc20x1⟩ := k20'''''.at_ 1 (x := .slice B18 (freeBn x0 xs1).h.length e18) rfl
  obtain ⟨hc20x2, gc20x2⟩ := k20'''''.at_ 2 (x := .slice C18 (freeBn x0 xs1).w.length f18) rfl
  obtain ⟨hc20x3, gc20x3⟩ := k20'''''.at_ 3 (x := .slice D18 (freeBn x0 xs1).f.length g18) rfl
  obtain ⟨hc20x4, gc20x4⟩ := k20'''''.at_ 4 (x := .int .i64 (freeBn x0 xs1).n) rfl
  have l20 := k20'''''.lt
  go_wp2_with fail
  refine (markIntS _ xs1 bs15 (1 + (cntBn x0 : Int)) _ ho15''''''' (by omega) (by omega) (by omega)).mono ?_
  rintro e w32 ⟨rfl, hq32, hon32⟩
  clear hc1x0 gc1x0 hc1x1 gc1x1 hc1x2 gc1x2 hc1x3 gc1x3 hc1x4 gc1x4 l1 hc11x0 gc11x0 hc11x1 gc11x1 hc11x2 gc11x2 hc11x3 gc11x3 hc11x4 gc11x4 l11 hc14x0 gc14x0 hc14x1 gc14x1 hc14x2 gc14x2 hc14x3 gc14x3 hc14x4 gc14x4 l14 hc20x0 gc20x0 hc20x1 gc20x1 hc20x2 gc20x2 hc20x3 gc20x3 hc20x4 gc20x4 l20
  have sz33 := hon32.size
  try simp only [World.size_alloc] at sz33
  have hB''''''''''''''''' := hB''''''''''''''''.trans (hon32.below hB''''''''''''''''.size (fun b hb => by have := lo15 b hb; omega))
  clear hB''''''''''''''''
  have k1'''''''''''''''' := k1'''''''''''''''.only hon32 (fun hm => by have := lo15 _ hm; have := hi15 _ hm; omega)
  clear k1'''''''''''''''
  have k11''''''''''' := k11''''''''''.only hon32 (fun hm => by have := lo15 _ hm; have := hi15 _ hm; omega)
  clear k11''''''''''
  have k14''''''''' := k14''''''''.only hon32 (fun hm => by have := lo15 _ hm; have := hi15 _ hm; omega)
  clear k14''''''''
  have k20'''''' := k20'''''.only hon32 (fun hm => by have := lo15 _ hm; have := hi15 _ hm; omega)
  clear k20'''''
  have ho4'''''''''''''' := ho4'''''''''''''.only hon32 (fun b hb hm => by have := lo15 b hm; have := hi15 b hm; have := lo4 b hb; have := hi4 b hb; omega)
  clear ho4'''''''''''''
  have ho6''''''''''''' := ho6''''''''''''.only hon32 (fun b hb hm => by have := lo15 b hm; have := hi15 b hm; have := lo6 b hb; have := hi6 b hb; omega)
  clear ho6''''''''''''
  have ho9'''''''''''' := ho9'''''''''''.only hon32 (fun b hb hm => by have := lo15 b hm; have := hi15 b hm; have := lo9 b hb; have := hi9 b hb; omega)
  clear ho9'''''''''''
  have hq30' := hq30.only hon32 (fun b hb hm => by have := lo15 b hm; have := hi15 b hm; have := lo12 b hb; have := hi12 b hb; omega)
  clear hq30
  have ho18''''''' := ho18''''''.only hon32 (fun b hb hm => by have := lo15 b hm; have := hi15 b hm; have := lo18 b hb; have := hi18 b hb; omega)
  clear ho18''''''
  have ho26''' := ho26''.only hon32 (fun b hb hm => by have := lo15 b hm; have := hi15 b hm; have := lo26 b hb; have := hi26 b hb; omega)
  clear ho26''
  obtain ⟨hc1x0, gc1x0⟩ := k1''''''''''''''''.at_ 0 (x := .slice Aa0 x0.l.length da0) rfl
  obtain ⟨hc1x1, gc1x1⟩ := k1''''''''''''''''.at_ 1 (x := .slice Ba0 x0.h.length ea0) rfl
  obtain ⟨hc1x2, gc1x2⟩ := k1''''''''''''''''.at_ 2 (x := .slice Ca0 x0.w.length fa0) rfl
  obtain ⟨hc1x3, gc1x3⟩ := k1''''''''''''''''.at_ 3 (x := .slice Da0 x0.f.length ga0) rfl
  obtain ⟨hc1x4, gc1x4⟩ := k1''''''''''''''''.at_ 4 (x := .int .i64 x0.n) rfl
  have l1 := k1''''''''''''''''.lt
  obtain ⟨hc11x0, gc11x0⟩ := k11'''''''''''.at_ 0 (x := .slice A9 (freeBn x0 xs1).l.length d9) rfl
  obtain ⟨hc11x1, gc11x1⟩ := k11'''''''''''.at_ 1 (x := .slice B9 (freeBn x0 xs1).h.length e9) rfl
  obtain ⟨hc11x2, gc11x2⟩ := k11'''''''''''.at_ 2 (x := .slice C9 (freeBn x0 xs1).w.length f9) rfl
  obtain ⟨hc11x3, gc11x3⟩ := k11'''''''''''.at_ 3 (x := .slice D9 (freeBn x0 xs1).f.length g9) rfl
  obtain ⟨hc11x4, gc11x4⟩ := k11'''''''''''.at_ 4 (x := .int .i64 (freeBn x0 xs1).n) rfl
  have l11 := k11'''''''''''.lt
  obtain ⟨hc14x0, gc14x0⟩ := k14'''''''''.at_ 0 (x := .slice A12 x0.l.length d12) rfl
  obtain ⟨hc14x1, gc14x1⟩ := k14'''''''''.at_ 1 (x := .slice B12 x0.h.length e12) rfl
  obtain ⟨hc14x2, gc14x2⟩ := k14'''''''''.at_ 2 (x := .slice C12 x0.w.length f12) rfl
  obtain ⟨hc14x3, gc14x3⟩ := k14'''''''''.at_ 3 (x := .slice D12 x0.f.length g12) rfl
  obtain ⟨hc14x4, gc14x4⟩ := k14'''''''''.at_ 4 (x := .int .i64 x0.n) rfl
  have l14 := k14'''''''''.lt
  obtain ⟨hc20x0, gc20x0⟩ := k20''''''.at_ 0 (x := .slice A18 (freeBn x0 xs1).l.length d18) rfl
  obtain ⟨hc20x1, gc20x1⟩ := k20''''''.at_ 1 (x := .slice B18 (freeBn x0 xs1).h.length e18) rfl
  obtain ⟨hc20x2, gc20x2⟩ := k20''''''.at_ 2 (x := .slice C18 (freeBn x0 xs1).w.length f18) rfl
  obtain ⟨hc20x3, gc20x3⟩ := k20''''''.at_ 3 (x := .slice D18 (freeBn x0 xs1).f.length g18) rfl
  obtain ⟨hc20x4, gc20x4⟩ := k20''''''.at_ 4 (x := .int .i64 (freeBn x0 xs1).n) rfl
  have l20 := k20''''''.lt
  go_wp2_with fail
  refine (eqBench _ _ _ _ _ _ _ _ ((freeBn x0 xs1)) ((freeBn x0 xs1)) _ ho18'''''''.rd ho9''''''''''''.rd).mono ?_
  rintro e w34 ⟨rfl, hb34⟩
  rw [decide_eq_true rfl]
  clear hc1x0 gc1x0 hc1x1 gc1x1 hc1x2 gc1x2 hc1x3 gc1x3 hc1x4 gc1x4 l1 hc11x0 gc11x0 hc11x1 gc11x1 hc11x2 gc11x2 hc11x3 gc11x3 hc11x4 gc11x4 l11 hc14x0 gc14x0 hc14x1 gc14x1 hc14x2 gc14x2 hc14x3 gc14x3 hc14x4 gc14x4 l14 hc20x0 gc20x0 hc20x1 gc20x1 hc20x2 gc20x2 hc20x3 gc20x3 hc20x4 gc20x4 l20
  have sz35 := hb34.size
  try simp only [World.size_alloc] at sz35
  have hB'''''''''''''''''' := hB'''''''''''''''''.trans (hb34.mono hB'''''''''''''''''.size)
  clear hB'''''''''''''''''
  have k1''''''''''''''''' := k1''''''''''''''''.below hb34 k1''''''''''''''''.lt
  clear k1''''''''''''''''
  have k11'''''''''''' := k11'''''''''''.below hb34 k11'''''''''''.lt
  clear k11'''''''''''
  have k14'''''''''' := k14'''''''''.below hb34 k14'''''''''.lt
  clear k14'''''''''
  have k20''''''' := k20''''''.below hb34 k20''''''.lt
  clear k20''''''
  have ho4''''''''''''''' := ho4''''''''''''''.below hb34
  clear ho4''''''''''''''
  have ho6'''''''''''''' := ho6'''''''''''''.below hb34
  clear ho6'''''''''''''
  have ho9''''''''''''' := ho9''''''''''''.below hb34
  clear ho9''''''''''''
  have hq30'' := hq30'.below hb34
  clear hq30'
  have hq32' := hq32.below hb34
  clear hq32
  have ho18'''''''' := ho18'''''''.below hb34
  clear ho18'''''''
  have ho26'''' := ho26'''.below hb34
  clear ho26'''
  obtain ⟨hc1x0, gc1x0⟩ := k1'''''''''''''''''.at_ 0 (x := .slice Aa0 x0.l.length da0) rfl
  obtain ⟨hc1x1, gc1x1⟩ := k1'''''''''''''''''.at_ 1 (x := .slice Ba0 x0.h.length ea0) rfl
  obtain ⟨hc1x2, gc1x2⟩ := k1'''''''''''''''''.at_ 2 (x := .slice Ca0 x0.w.length fa0) rfl
  obtain ⟨hc1x3, gc1x3⟩ := k1'''''''''''''''''.at_ 3 (x := .slice Da0 x0.f.length ga0) rfl
  obtain ⟨hc1x4, gc1x4⟩ := k1'''''''''''''''''.at_ 4 (x := .int .i64 x0.n) rfl
  have l1 := k1'''''''''''''''''.lt
  obtain ⟨hc11x0, gc11x0⟩ := k11''''''''''''.at_ 0 (x := .slice A9 (freeBn x0 xs1).l.length d9) rfl
  obtain ⟨hc11x1, gc11x1⟩ := k11''''''''''''.at_ 1 (x := .slice B9 (freeBn x0 xs1).h.length e9) rfl
  obtain ⟨hc11x2, gc11x2⟩ := k11''''''''''''.at_ 2 (x := .slice C9 (freeBn x0 xs1).w.length f9) rfl
  obtain ⟨hc11x3, gc11x3⟩ := k11''''''''''''.at_ 3 (x := .slice D9 (freeBn x0 xs1).f.length g9) rfl
  obtain ⟨hc11x4, gc11x4⟩ := k11''''''''''''.at_ 4 (x := .int .i64 (freeBn x0 xs1).n) rfl
  have l11 := k11''''''''''''.lt
  obtain ⟨hc14x0, gc14x0⟩ := k14''''''''''.at_ 0 (x := .slice A12 x0.l.length d12) rfl
  obtain ⟨hc14x1, gc14x1⟩ := k14''''''''''.at_ 1 (x := .slice B12 x0.h.length e12) rfl
  obtain ⟨hc14x2, gc14x2⟩ := k14''''''''''.at_ 2 (x := .slice C12 x0.w.length f12) rfl
  obtain ⟨hc14x3, gc14x3⟩ := k14''''''''''.at_ 3 (x := .slice D12 x0.f.length g12) rfl
  obtain ⟨hc14x4, gc14x4⟩ := k14''''''''''.at_ 4 (x := .int .i64 x0.n) rfl
  have l14 := k14''''''''''.lt
  obtain ⟨hc20x0, gc20x0⟩ := k20'''''''.at_ 0 (x := .slice A18 (freeBn x0 xs1).l.length d18) rfl
  obtain ⟨hc20x1, gc20x1⟩ := k20'''''''.at_ 1 (x := .slice B18 (freeBn x0 xs1).h.length e18) rfl
  obtain ⟨hc20x2, gc20x2⟩ := k20'''''''.at_ 2 (x := .slice C18 (freeBn x0 xs1).w.length f18) rfl
  obtain ⟨hc20x3, gc20x3⟩ := k20'''''''.at_ 3 (x := .slice D18 (freeBn x0 xs1).f.length g18) rfl
  obtain ⟨hc20x4, gc20x4⟩ := k20'''''''.at_ 4 (x := .int .i64 (freeBn x0 xs1).n) rfl
  have l20 := k20'''''''.lt
  go_wp2_with fail
  refine (markBench _ _ _ _ (freeBn x0 xs1) bs18 (1) _ ho18'''''''' (by omega) (by omega) (by omega)).mono ?_
  rintro e w36 ⟨rfl, hq36, hon36⟩
  clear hc1x0 gc1x0 hc1x1 gc1x1 hc1x2 gc1x2 hc1x3 gc1x3 hc1x4 gc1x4 l1 hc11x0 gc11x0 hc11x1 gc11x1 hc11x2 gc11x2 hc11x3 gc11x3 hc11x4 gc11x4 l11 hc14x0 gc14x0 hc14x1 gc14x1 hc14x2 gc14x2 hc14x3 gc14x3 hc14x4 gc14x4 l14 hc20x0 gc20x0 hc20x1 gc20x1 hc20x2 gc20x2 hc20x3 gc20x3 hc20x4 gc20x4 l20
  have sz37 := hon36.size
  try simp only [World.size_alloc] at sz37
  have hB''''''''''''''''''' := hB''''''''''''''''''.trans (hon36.below hB''''''''''''''''''.size (fun b hb => by have := lo18 b hb; omega))
  clear hB''''''''''''''''''
  have k1'''''''''''''''''' := k1'''''''''''''''''.only hon36 (fun hm => by have := lo18 _ hm; have := hi18 _ hm; omega)
  clear k1'''''''''''''''''
  have k11''''''''''''' := k11''''''''''''.only hon36 (fun hm => by have := lo18 _ hm; have := hi18 _ hm; omega)
  clear k11''''''''''''
  have k14''''''''''' := k14''''''''''.only hon36 (fun hm => by have := lo18 _ hm; have := hi18 _ hm; omega)
  clear k14''''''''''
  have k20'''''''' := k20'''''''.only hon36 (fun hm => by have := lo18 _ hm; have := hi18 _ hm; omega)
  clear k20'''''''
  have ho4'''''''''''''''' := ho4'''''''''''''''.only hon36 (fun b hb hm => by have := lo18 b hm; have := hi18 b hm; have := lo4 b hb; have := hi4 b hb; omega)
  clear ho4'''''''''''''''
  have ho6''''''''''''''' := ho6''''''''''''''.only hon36 (fun b hb hm => by have := lo18 b hm; have := hi18 b hm; have := lo6 b hb; have := hi6 b hb; omega)
  clear ho6''''''''''''''
  have ho9'''''''''''''' := ho9'''''''''''''.only hon36 (fun b hb hm => by have := lo18 b hm; have := hi18 b hm; have := lo9 b hb; have := hi9 b hb; omega)
  clear ho9'''''''''''''
  have hq30''' := hq30''.only hon36 (fun b hb hm => by have := lo18 b hm; have := hi18 b hm; have := lo12 b hb; have := hi12 b hb; omega)
  clear hq30''
  have hq32'' := hq32'.only hon36 (fun b hb hm => by have := lo18 b hm; have := hi18 b hm; have := lo15 b hb; have := hi15 b hb; omega)
  clear hq32'
  have ho26''''' := ho26''''.only hon36 (fun b hb hm => by have := lo18 b hm; have := hi18 b hm; have := lo26 b hb; have := hi26 b hb; omega)
  clear ho26''''
  obtain ⟨hc1x0, gc1x0⟩ := k1''''''''''''''''''.at_ 0 (x := .slice Aa0 x0.l.length da0) rfl
  obtain ⟨hc1x1, gc1x1⟩ := k1''''''''''''''''''.at_ 1 (x := .slice Ba0 x0.h.length ea0) rfl
  obtain ⟨hc1x2, gc1x2⟩ := k1''''''''''''''''''.at_ 2 (x := .slice Ca0 x0.w.length fa0) rfl
  obtain ⟨hc1x3, gc1x3⟩ := k1''''''''''''''''''.at_ 3 (x := .slice Da0 x0.f.length ga0) rfl
  obtain ⟨hc1x4, gc1x4⟩ := k1''''''''''''''''''.at_ 4 (x := .int .i64 x0.n) rfl
  have l1 := k1''''''''''''''''''.lt
  obtain ⟨hc11x0, gc11x0⟩ := k11'''''''''''''.at_ 0 (x := .slice A9 (freeBn x0 xs1).l.length d9) rfl
  obtain ⟨hc11x1, gc11x1⟩ := k11'''''''''''''.at_ 1 (x := .slice B9 (freeBn x0 xs1).h.length e9) rfl
  obtain ⟨hc11x2, gc11x2⟩ := k11'''''''''''''.at_ 2 (x := .slice C9 (freeBn x0 xs1).w.length f9) rfl
  obtain ⟨hc11x3, gc11x3⟩ := k11'''''''''''''.at_ 3 (x := .slice D9 (freeBn x0 xs1).f.length g9) rfl
  obtain ⟨hc11x4, gc11x4⟩ := k11'''''''''''''.at_ 4 (x := .int .i64 (freeBn x0 xs1).n) rfl
  have l11 := k11'''''''''''''.lt
  obtain ⟨hc14x0, gc14x0⟩ := k14'''''''''''.at_ 0 (x := .slice A12 x0.l.length d12) rfl
  obtain ⟨hc14x1, gc14x1⟩ := k14'''''''''''.at_ 1 (x := .slice B12 x0.h.length e12) rfl
  obtain ⟨hc14x2, gc14x2⟩ := k14'''''''''''.at_ 2 (x := .slice C12 x0.w.length f12) rfl
  obtain ⟨hc14x3, gc14x3⟩ := k14'''''''''''.at_ 3 (x := .slice D12 x0.f.length g12) rfl
  obtain ⟨hc14x4, gc14x4⟩ := k14'''''''''''.at_ 4 (x := .int .i64 x0.n) rfl
  have l14 := k14'''''''''''.lt
  obtain ⟨hc20x0, gc20x0⟩ := k20''''''''.at_ 0 (x := .slice A18 (freeBn x0 xs1).l.length d18) rfl
  obtain ⟨hc20x1, gc20x1⟩ := k20''''''''.at_ 1 (x := .slice B18 (freeBn x0 xs1).h.length e18) rfl
  obtain ⟨hc20x2, gc20x2⟩ := k20''''''''.at_ 2 (x := .slice C18 (freeBn x0 xs1).w.length f18) rfl
  obtain ⟨hc20x3, gc20x3⟩ := k20''''''''.at_ 3 (x := .slice D18 (freeBn x0 xs1).f.length g18) rfl
  obtain ⟨hc20x4, gc20x4⟩ := k20''''''''.at_ 4 (x := .int .i64 (freeBn x0 xs1).n) rfl
  have l20 := k20''''''''.lt
  go_wp2_with fail
  refine (heldBench _ _ _ _ (freeBn x0 xs1) (1) _ hq36.rd (by omega) (by omega) (by omega)).mono ?_
  rintro e w38 ⟨rfl, hb38⟩
  clear hc1x0 gc1x0 hc1x1 gc1x1 hc1x2 gc1x2 hc1x3 gc1x3 hc1x4 gc1x4 l1 hc11x0 gc11x0 hc11x1 gc11x1 hc11x2 gc11x2 hc11x3 gc11x3 hc11x4 gc11x4 l11 hc14x0 gc14x0 hc14x1 gc14x1 hc14x2 gc14x2 hc14x3 gc14x3 hc14x4 gc14x4 l14 hc20x0 gc20x0 hc20x1 gc20x1 hc20x2 gc20x2 hc20x3 gc20x3 hc20x4 gc20x4 l20
  have sz39 := hb38.size
  try simp only [World.size_alloc] at sz39
  have hB'''''''''''''''''''' := hB'''''''''''''''''''.trans (hb38.mono hB'''''''''''''''''''.size)
  clear hB'''''''''''''''''''
  have k1''''''''''''''''''' := k1''''''''''''''''''.below hb38 k1''''''''''''''''''.lt
  clear k1''''''''''''''''''
  have k11'''''''''''''' := k11'''''''''''''.below hb38 k11'''''''''''''.lt
  clear k11'''''''''''''
  have k14'''''''''''' := k14'''''''''''.below hb38 k14'''''''''''.lt
  clear k14'''''''''''
  have k20''''''''' := k20''''''''.below hb38 k20''''''''.lt
  clear k20''''''''
  have ho4''''''''''''''''' := ho4''''''''''''''''.below hb38
  clear ho4''''''''''''''''
  have ho6'''''''''''''''' := ho6'''''''''''''''.below hb38
  clear ho6'''''''''''''''
  have ho9''''''''''''''' := ho9''''''''''''''.below hb38
  clear ho9''''''''''''''
  have hq30'''' := hq30'''.below hb38
  clear hq30'''
  have hq32''' := hq32''.below hb38
  clear hq32''
  have hq36' := hq36.below hb38
  clear hq36
  have ho26'''''' := ho26'''''.below hb38
  clear ho26'''''
  obtain ⟨hc1x0, gc1x0⟩ := k1'''''''''''''''''''.at_ 0 (x := .slice Aa0 x0.l.length da0) rfl
  obtain ⟨hc1x1, gc1x1⟩ := k1'''''''''''''''''''.at_ 1 (x := .slice Ba0 x0.h.length ea0) rfl
  obtain ⟨hc1x2, gc1x2⟩ := k1'''''''''''''''''''.at_ 2 (x := .slice Ca0 x0.w.length fa0) rfl
  obtain ⟨hc1x3, gc1x3⟩ := k1'''''''''''''''''''.at_ 3 (x := .slice Da0 x0.f.length ga0) rfl
  obtain ⟨hc1x4, gc1x4⟩ := k1'''''''''''''''''''.at_ 4 (x := .int .i64 x0.n) rfl
  have l1 := k1'''''''''''''''''''.lt
  obtain ⟨hc11x0, gc11x0⟩ := k11''''''''''''''.at_ 0 (x := .slice A9 (freeBn x0 xs1).l.length d9) rfl
  obtain ⟨hc11x1, gc11x1⟩ := k11''''''''''''''.at_ 1 (x := .slice B9 (freeBn x0 xs1).h.length e9) rfl
  obtain ⟨hc11x2, gc11x2⟩ := k11''''''''''''''.at_ 2 (x := .slice C9 (freeBn x0 xs1).w.length f9) rfl
  obtain ⟨hc11x3, gc11x3⟩ := k11''''''''''''''.at_ 3 (x := .slice D9 (freeBn x0 xs1).f.length g9) rfl
  obtain ⟨hc11x4, gc11x4⟩ := k11''''''''''''''.at_ 4 (x := .int .i64 (freeBn x0 xs1).n) rfl
  have l11 := k11''''''''''''''.lt
  obtain ⟨hc14x0, gc14x0⟩ := k14''''''''''''.at_ 0 (x := .slice A12 x0.l.length d12) rfl
  obtain ⟨hc14x1, gc14x1⟩ := k14''''''''''''.at_ 1 (x := .slice B12 x0.h.length e12) rfl
  obtain ⟨hc14x2, gc14x2⟩ := k14''''''''''''.at_ 2 (x := .slice C12 x0.w.length f12) rfl
  obtain ⟨hc14x3, gc14x3⟩ := k14''''''''''''.at_ 3 (x := .slice D12 x0.f.length g12) rfl
  obtain ⟨hc14x4, gc14x4⟩ := k14''''''''''''.at_ 4 (x := .int .i64 x0.n) rfl
  have l14 := k14''''''''''''.lt
  obtain ⟨hc20x0, gc20x0⟩ := k20'''''''''.at_ 0 (x := .slice A18 (freeBn x0 xs1).l.length d18) rfl
  obtain ⟨hc20x1, gc20x1⟩ := k20'''''''''.at_ 1 (x := .slice B18 (freeBn x0 xs1).h.length e18) rfl
  obtain ⟨hc20x2, gc20x2⟩ := k20'''''''''.at_ 2 (x := .slice C18 (freeBn x0 xs1).w.length f18) rfl
  obtain ⟨hc20x3, gc20x3⟩ := k20'''''''''.at_ 3 (x := .slice D18 (freeBn x0 xs1).f.length g18) rfl
  obtain ⟨hc20x4, gc20x4⟩ := k20'''''''''.at_ 4 (x := .int .i64 (freeBn x0 xs1).n) rfl
  have l20 := k20'''''''''.lt
  go_wp2_with fail
  refine (toBench _ _ _ _ x0 _ (HAaB.out.below hB'''''''''''''''''''') (by omega)).mono ?_
  rintro e w40 ⟨v40x0, v40x1, v40x2, v40x3, bs40, rfl, ho40, lo40, hb40⟩
  clear hc1x0 gc1x0 hc1x1 gc1x1 hc1x2 gc1x2 hc1x3 gc1x3 hc1x4 gc1x4 l1 hc11x0 gc11x0 hc11x1 gc11x1 hc11x2 gc11x2 hc11x3 gc11x3 hc11x4 gc11x4 l11 hc14x0 gc14x0 hc14x1 gc14x1 hc14x2 gc14x2 hc14x3 gc14x3 hc14x4 gc14x4 l14 hc20x0 gc20x0 hc20x1 gc20x1 hc20x2 gc20x2 hc20x3 gc20x3 hc20x4 gc20x4 l20
  have sz41 := hb40.size
  try simp only [World.size_alloc] at sz41
  have hB''''''''''''''''''''' := hB''''''''''''''''''''.trans (hb40.mono hB''''''''''''''''''''.size)
  clear hB''''''''''''''''''''
  have k1'''''''''''''''''''' := k1'''''''''''''''''''.below hb40 k1'''''''''''''''''''.lt
  clear k1'''''''''''''''''''
  have k11''''''''''''''' := k11''''''''''''''.below hb40 k11''''''''''''''.lt
  clear k11''''''''''''''
  have k14''''''''''''' := k14''''''''''''.below hb40 k14''''''''''''.lt
  clear k14''''''''''''
  have k20'''''''''' := k20'''''''''.below hb40 k20'''''''''.lt
  clear k20'''''''''
  have ho4'''''''''''''''''' := ho4'''''''''''''''''.below hb40
  clear ho4'''''''''''''''''
  have ho6''''''''''''''''' := ho6''''''''''''''''.below hb40
  clear ho6''''''''''''''''
  have ho9'''''''''''''''' := ho9'''''''''''''''.below hb40
  clear ho9'''''''''''''''
  have hq30''''' := hq30''''.below hb40
  clear hq30''''
  have hq32'''' := hq32'''.below hb40
  clear hq32'''
  have hq36'' := hq36'.below hb40
  clear hq36'
  have ho26''''''' := ho26''''''.below hb40
  clear ho26''''''
  have hi40 := ho40.lt
  try simp only [World.size_alloc] at lo40
  obtain ⟨A40, d40, B40, e40, C40, f40, D40, g40, rfl, rfl, rfl, rfl⟩ := ho40.slices
  obtain ⟨hc1x0, gc1x0⟩ := k1''''''''''''''''''''.at_ 0 (x := .slice Aa0 x0.l.length da0) rfl
  obtain ⟨hc1x1, gc1x1⟩ := k1''''''''''''''''''''.at_ 1 (x := .slice Ba0 x0.h.length ea0) rfl
  obtain ⟨hc1x2, gc1x2⟩ := k1''''''''''''''''''''.at_ 2 (x := .slice Ca0 x0.w.length fa0) rfl
  obtain ⟨hc1x3, gc1x3⟩ := k1''''''''''''''''''''.at_ 3 (x := .slice Da0 x0.f.length ga0) rfl
  obtain ⟨hc1x4, gc1x4⟩ := k1''''''''''''''''''''.at_ 4 (x := .int .i64 x0.n) rfl
  have l1 := k1''''''''''''''''''''.lt
  obtain ⟨hc11x0, gc11x0⟩ := k11'''''''''''''''.at_ 0 (x := .slice A9 (freeBn x0 xs1).l.length d9) rfl
  obtain ⟨hc11x1, gc11x1⟩ := k11'''''''''''''''.at_ 1 (x := .slice B9 (freeBn x0 xs1).h.length e9) rfl
  obtain ⟨hc11x2, gc11x2⟩ := k11'''''''''''''''.at_ 2 (x := .slice C9 (freeBn x0 xs1).w.length f9) rfl
  obtain ⟨hc11x3, gc11x3⟩ := k11'''''''''''''''.at_ 3 (x := .slice D9 (freeBn x0 xs1).f.length g9) rfl
  obtain ⟨hc11x4, gc11x4⟩ := k11'''''''''''''''.at_ 4 (x := .int .i64 (freeBn x0 xs1).n) rfl
  have l11 := k11'''''''''''''''.lt
  obtain ⟨hc14x0, gc14x0⟩ := k14'''''''''''''.at_ 0 (x := .slice A12 x0.l.length d12) rfl
  obtain ⟨hc14x1, gc14x1⟩ := k14'''''''''''''.at_ 1 (x := .slice B12 x0.h.length e12) rfl
  obtain ⟨hc14x2, gc14x2⟩ := k14'''''''''''''.at_ 2 (x := .slice C12 x0.w.length f12) rfl
  obtain ⟨hc14x3, gc14x3⟩ := k14'''''''''''''.at_ 3 (x := .slice D12 x0.f.length g12) rfl
  obtain ⟨hc14x4, gc14x4⟩ := k14'''''''''''''.at_ 4 (x := .int .i64 x0.n) rfl
  have l14 := k14'''''''''''''.lt
  obtain ⟨hc20x0, gc20x0⟩ := k20''''''''''.at_ 0 (x := .slice A18 (freeBn x0 xs1).l.length d18) rfl
  obtain ⟨hc20x1, gc20x1⟩ := k20''''''''''.at_ 1 (x := .slice B18 (freeBn x0 xs1).h.length e18) rfl
  obtain ⟨hc20x2, gc20x2⟩ := k20''''''''''.at_ 2 (x := .slice C18 (freeBn x0 xs1).w.length f18) rfl
  obtain ⟨hc20x3, gc20x3⟩ := k20''''''''''.at_ 3 (x := .slice D18 (freeBn x0 xs1).f.length g18) rfl
  obtain ⟨hc20x4, gc20x4⟩ := k20''''''''''.at_ 4 (x := .int .i64 (freeBn x0 xs1).n) rfl
  have l20 := k20''''''''''.lt
  go_wp2_with fail
  refine (toIntS _ xs1 _ (HAaList.out.below hB''''''''''''''''''''') (by omega)).mono ?_
  rintro e w42 ⟨v42x0, bs42, rfl, ho42, lo42, hb42⟩
  clear hc1x0 gc1x0 hc1x1 gc1x1 hc1x2 gc1x2 hc1x3 gc1x3 hc1x4 gc1x4 l1 hc11x0 gc11x0 hc11x1 gc11x1 hc11x2 gc11x2 hc11x3 gc11x3 hc11x4 gc11x4 l11 hc14x0 gc14x0 hc14x1 gc14x1 hc14x2 gc14x2 hc14x3 gc14x3 hc14x4 gc14x4 l14 hc20x0 gc20x0 hc20x1 gc20x1 hc20x2 gc20x2 hc20x3 gc20x3 hc20x4 gc20x4 l20
  have sz43 := hb42.size
  try simp only [World.size_alloc] at sz43
  have hB'''''''''''''''''''''' := hB'''''''''''''''''''''.trans (hb42.mono hB'''''''''''''''''''''.size)
  clear hB'''''''''''''''''''''
  have k1''''''''''''''''''''' := k1''''''''''''''''''''.below hb42 k1''''''''''''''''''''.lt
  clear k1''''''''''''''''''''
  have k11'''''''''''''''' := k11'''''''''''''''.below hb42 k11'''''''''''''''.lt
  clear k11'''''''''''''''
  have k14'''''''''''''' := k14'''''''''''''.below hb42 k14'''''''''''''.lt
  clear k14'''''''''''''
  have k20''''''''''' := k20''''''''''.below hb42 k20''''''''''.lt
  clear k20''''''''''
  have ho4''''''''''''''''''' := ho4''''''''''''''''''.below hb42
  clear ho4''''''''''''''''''
  have ho6'''''''''''''''''' := ho6'''''''''''''''''.below hb42
  clear ho6'''''''''''''''''
  have ho9''''''''''''''''' := ho9''''''''''''''''.below hb42
  clear ho9''''''''''''''''
  have hq30'''''' := hq30'''''.below hb42
  clear hq30'''''
  have hq32''''' := hq32''''.below hb42
  clear hq32''''
  have hq36''' := hq36''.below hb42
  clear hq36''
  have ho26'''''''' := ho26'''''''.below hb42
  clear ho26'''''''
  have ho40' := ho40.below hb42
  clear ho40
  have hi42 := ho42.lt
  try simp only [World.size_alloc] at lo42
  obtain ⟨A42, d42, rfl, -, -⟩ := ho42.slice
  obtain ⟨hc1x0, gc1x0⟩ := k1'''''''''''''''''''''.at_ 0 (x := .slice Aa0 x0.l.length da0) rfl
  obtain ⟨hc1x1, gc1x1⟩ := k1'''''''''''''''''''''.at_ 1 (x := .slice Ba0 x0.h.length ea0) rfl
  obtain ⟨hc1x2, gc1x2⟩ := k1'''''''''''''''''''''.at_ 2 (x := .slice Ca0 x0.w.length fa0) rfl
  obtain ⟨hc1x3, gc1x3⟩ := k1'''''''''''''''''''''.at_ 3 (x := .slice Da0 x0.f.length ga0) rfl
  obtain ⟨hc1x4, gc1x4⟩ := k1'''''''''''''''''''''.at_ 4 (x := .int .i64 x0.n) rfl
  have l1 := k1'''''''''''''''''''''.lt
  obtain ⟨hc11x0, gc11x0⟩ := k11''''''''''''''''.at_ 0 (x := .slice A9 (freeBn x0 xs1).l.length d9) rfl
  obtain ⟨hc11x1, gc11x1⟩ := k11''''''''''''''''.at_ 1 (x := .slice B9 (freeBn x0 xs1).h.length e9) rfl
  obtain ⟨hc11x2, gc11x2⟩ := k11''''''''''''''''.at_ 2 (x := .slice C9 (freeBn x0 xs1).w.length f9) rfl
  obtain ⟨hc11x3, gc11x3⟩ := k11''''''''''''''''.at_ 3 (x := .slice D9 (freeBn x0 xs1).f.length g9) rfl
  obtain ⟨hc11x4, gc11x4⟩ := k11''''''''''''''''.at_ 4 (x := .int .i64 (freeBn x0 xs1).n) rfl
  have l11 := k11''''''''''''''''.lt
  obtain ⟨hc14x0, gc14x0⟩ := k14''''''''''''''.at_ 0 (x := .slice A12 x0.l.length d12) rfl
  obtain ⟨hc14x1, gc14x1⟩ := k14''''''''''''''.at_ 1 (x := .slice B12 x0.h.length e12) rfl
  obtain ⟨hc14x2, gc14x2⟩ := k14''''''''''''''.at_ 2 (x := .slice C12 x0.w.length f12) rfl
  obtain ⟨hc14x3, gc14x3⟩ := k14''''''''''''''.at_ 3 (x := .slice D12 x0.f.length g12) rfl
  obtain ⟨hc14x4, gc14x4⟩ := k14''''''''''''''.at_ 4 (x := .int .i64 x0.n) rfl
  have l14 := k14''''''''''''''.lt
  obtain ⟨hc20x0, gc20x0⟩ := k20'''''''''''.at_ 0 (x := .slice A18 (freeBn x0 xs1).l.length d18) rfl
  obtain ⟨hc20x1, gc20x1⟩ := k20'''''''''''.at_ 1 (x := .slice B18 (freeBn x0 xs1).h.length e18) rfl
  obtain ⟨hc20x2, gc20x2⟩ := k20'''''''''''.at_ 2 (x := .slice C18 (freeBn x0 xs1).w.length f18) rfl
  obtain ⟨hc20x3, gc20x3⟩ := k20'''''''''''.at_ 3 (x := .slice D18 (freeBn x0 xs1).f.length g18) rfl
  obtain ⟨hc20x4, gc20x4⟩ := k20'''''''''''.at_ 4 (x := .int .i64 (freeBn x0 xs1).n) rfl
  have l20 := k20'''''''''''.lt
  go_wp2_with fail
  refine (impl_FreeSome _ _ _ _ x0 _ xs1 _ ho40'.rd hS0 ho42.rd (by omega) hI1 (by omega)).mono ?_
  rintro e w44 ⟨v45x0, v45x1, v45x2, v45x3, bs45, rfl, ho45, lo45, hb45⟩
  clear hc1x0 gc1x0 hc1x1 gc1x1 hc1x2 gc1x2 hc1x3 gc1x3 hc1x4 gc1x4 l1 hc11x0 gc11x0 hc11x1 gc11x1 hc11x2 gc11x2 hc11x3 gc11x3 hc11x4 gc11x4 l11 hc14x0 gc14x0 hc14x1 gc14x1 hc14x2 gc14x2 hc14x3 gc14x3 hc14x4 gc14x4 l14 hc20x0 gc20x0 hc20x1 gc20x1 hc20x2 gc20x2 hc20x3 gc20x3 hc20x4 gc20x4 l20
  have sz46 := hb45.size
  try simp only [World.size_alloc] at sz46
  have hB''''''''''''''''''''''' := hB''''''''''''''''''''''.trans (hb45.mono hB''''''''''''''''''''''.size)
  clear hB''''''''''''''''''''''
  have k1'''''''''''''''''''''' := k1'''''''''''''''''''''.below hb45 k1'''''''''''''''''''''.lt
  clear k1'''''''''''''''''''''
  have k11''''''''''''''''' := k11''''''''''''''''.below hb45 k11''''''''''''''''.lt
  clear k11''''''''''''''''
  have k14''''''''''''''' := k14''''''''''''''.below hb45 k14''''''''''''''.lt
  clear k14''''''''''''''
  have k20'''''''''''' := k20'''''''''''.below hb45 k20'''''''''''.lt
  clear k20'''''''''''
  have ho4'''''''''''''''''''' := ho4'''''''''''''''''''.below hb45
  clear ho4'''''''''''''''''''
  have ho6''''''''''''''''''' := ho6''''''''''''''''''.below hb45
  clear ho6''''''''''''''''''
  have ho9'''''''''''''''''' := ho9'''''''''''''''''.below hb45
  clear ho9'''''''''''''''''
  have hq30''''''' := hq30''''''.below hb45
  clear hq30''''''
  have hq32'''''' := hq32'''''.below hb45
  clear hq32'''''
  have hq36'''' := hq36'''.below hb45
  clear hq36'''
  have ho26''''''''' := ho26''''''''.below hb45
  clear ho26''''''''
  have ho40'' := ho40'.below hb45
  clear ho40'
  have ho42' := ho42.below hb45
  clear ho42
  have hi45 := ho45.lt
  try simp only [World.size_alloc] at lo45
  obtain ⟨A45, d45, B45, e45, C45, f45, D45, g45, rfl, rfl, rfl, rfl⟩ := ho45.slices
  obtain ⟨hc1x0, gc1x0⟩ := k1''''''''''''''''''''''.at_ 0 (x := .slice Aa0 x0.l.length da0) rfl
  obtain ⟨hc1x1, gc1x1⟩ := k1''''''''''''''''''''''.at_ 1 (x := .slice Ba0 x0.h.length ea0) rfl
  obtain ⟨hc1x2, gc1x2⟩ := k1''''''''''''''''''''''.at_ 2 (x := .slice Ca0 x0.w.length fa0) rfl
  obtain ⟨hc1x3, gc1x3⟩ := k1''''''''''''''''''''''.at_ 3 (x := .slice Da0 x0.f.length ga0) rfl
  obtain ⟨hc1x4, gc1x4⟩ := k1''''''''''''''''''''''.at_ 4 (x := .int .i64 x0.n) rfl
  have l1 := k1''''''''''''''''''''''.lt
  obtain ⟨hc11x0, gc11x0⟩ := k11'''''''''''''''''.at_ 0 (x := .slice A9 (freeBn x0 xs1).l.length d9) rfl
  obtain ⟨hc11x1, gc11x1⟩ := k11'''''''''''''''''.at_ 1 (x := .slice B9 (freeBn x0 xs1).h.length e9) rfl
  obtain ⟨hc11x2, gc11x2⟩ := k11'''''''''''''''''.at_ 2 (x := .slice C9 (freeBn x0 xs1).w.length f9) rfl
  obtain ⟨hc11x3, gc11x3⟩ := k11'''''''''''''''''.at_ 3 (x := .slice D9 (freeBn x0 xs1).f.length g9) rfl
  obtain ⟨hc11x4, gc11x4⟩ := k11'''''''''''''''''.at_ 4 (x := .int .i64 (freeBn x0 xs1).n) rfl
  have l11 := k11'''''''''''''''''.lt
  obtain ⟨hc14x0, gc14x0⟩ := k14'''''''''''''''.at_ 0 (x := .slice A12 x0.l.length d12) rfl
  obtain ⟨hc14x1, gc14x1⟩ := k14'''''''''''''''.at_ 1 (x := .slice B12 x0.h.length e12) rfl
  obtain ⟨hc14x2, gc14x2⟩ := k14'''''''''''''''.at_ 2 (x := .slice C12 x0.w.length f12) rfl
  obtain ⟨hc14x3, gc14x3⟩ := k14'''''''''''''''.at_ 3 (x := .slice D12 x0.f.length g12) rfl
  obtain ⟨hc14x4, gc14x4⟩ := k14'''''''''''''''.at_ 4 (x := .int .i64 x0.n) rfl
  have l14 := k14'''''''''''''''.lt
  obtain ⟨hc20x0, gc20x0⟩ := k20''''''''''''.at_ 0 (x := .slice A18 (freeBn x0 xs1).l.length d18) rfl
  obtain ⟨hc20x1, gc20x1⟩ := k20''''''''''''.at_ 1 (x := .slice B18 (freeBn x0 xs1).h.length e18) rfl
  obtain ⟨hc20x2, gc20x2⟩ := k20''''''''''''.at_ 2 (x := .slice C18 (freeBn x0 xs1).w.length f18) rfl
  obtain ⟨hc20x3, gc20x3⟩ := k20''''''''''''.at_ 3 (x := .slice D18 (freeBn x0 xs1).f.length g18) rfl
  obtain ⟨hc20x4, gc20x4⟩ := k20''''''''''''.at_ 4 (x := .int .i64 (freeBn x0 xs1).n) rfl
  have l20 := k20''''''''''''.lt
  go_wp2_with fail
  clear hc1x0 gc1x0 hc1x1 gc1x1 hc1x2 gc1x2 hc1x3 gc1x3 hc1x4 gc1x4 l1 hc11x0 gc11x0 hc11x1 gc11x1 hc11x2 gc11x2 hc11x3 gc11x3 hc11x4 gc11x4 l11 hc14x0 gc14x0 hc14x1 gc14x1 hc14x2 gc14x2 hc14x3 gc14x3 hc14x4 gc14x4 l14 hc20x0 gc20x0 hc20x1 gc20x1 hc20x2 gc20x2 hc20x3 gc20x3 hc20x4 gc20x4 l20
  have k1''''''''''''''''''''''' := k1''''''''''''''''''''''.alloc (.cells #[.slice A45 (freeBn x0 xs1).l.length d45, .slice B45 (freeBn x0 xs1).h.length e45, .slice C45 (freeBn x0 xs1).w.length f45, .slice D45 (freeBn x0 xs1).f.length g45, .int .i64 (freeBn x0 xs1).n] 30)
  clear k1''''''''''''''''''''''
  have k11'''''''''''''''''' := k11'''''''''''''''''.alloc (.cells #[.slice A45 (freeBn x0 xs1).l.length d45, .slice B45 (freeBn x0 xs1).h.length e45, .slice C45 (freeBn x0 xs1).w.length f45, .slice D45 (freeBn x0 xs1).f.length g45, .int .i64 (freeBn x0 xs1).n] 30)
  clear k11'''''''''''''''''
  have k14'''''''''''''''' := k14'''''''''''''''.alloc (.cells #[.slice A45 (freeBn x0 xs1).l.length d45, .slice B45 (freeBn x0 xs1).h.length e45, .slice C45 (freeBn x0 xs1).w.length f45, .slice D45 (freeBn x0 xs1).f.length g45, .int .i64 (freeBn x0 xs1).n] 30)
  clear k14'''''''''''''''
  have k20''''''''''''' := k20''''''''''''.alloc (.cells #[.slice A45 (freeBn x0 xs1).l.length d45, .slice B45 (freeBn x0 xs1).h.length e45, .slice C45 (freeBn x0 xs1).w.length f45, .slice D45 (freeBn x0 xs1).f.length g45, .int .i64 (freeBn x0 xs1).n] 30)
  clear k20''''''''''''
  have ho4''''''''''''''''''''' := ho4''''''''''''''''''''.below ((Below.refl _ _).alloc (Nat.le_refl _) (.cells #[.slice A45 (freeBn x0 xs1).l.length d45, .slice B45 (freeBn x0 xs1).h.length e45, .slice C45 (freeBn x0 xs1).w.length f45, .slice D45 (freeBn x0 xs1).f.length g45, .int .i64 (freeBn x0 xs1).n] 30))
  clear ho4''''''''''''''''''''
  have ho6'''''''''''''''''''' := ho6'''''''''''''''''''.below ((Below.refl _ _).alloc (Nat.le_refl _) (.cells #[.slice A45 (freeBn x0 xs1).l.length d45, .slice B45 (freeBn x0 xs1).h.length e45, .slice C45 (freeBn x0 xs1).w.length f45, .slice D45 (freeBn x0 xs1).f.length g45, .int .i64 (freeBn x0 xs1).n] 30))
  clear ho6'''''''''''''''''''
  have ho9''''''''''''''''''' := ho9''''''''''''''''''.below ((Below.refl _ _).alloc (Nat.le_refl _) (.cells #[.slice A45 (freeBn x0 xs1).l.length d45, .slice B45 (freeBn x0 xs1).h.length e45, .slice C45 (freeBn x0 xs1).w.length f45, .slice D45 (freeBn x0 xs1).f.length g45, .int .i64 (freeBn x0 xs1).n] 30))
  clear ho9''''''''''''''''''
  have hq30'''''''' := hq30'''''''.below ((Below.refl _ _).alloc (Nat.le_refl _) (.cells #[.slice A45 (freeBn x0 xs1).l.length d45, .slice B45 (freeBn x0 xs1).h.length e45, .slice C45 (freeBn x0 xs1).w.length f45, .slice D45 (freeBn x0 xs1).f.length g45, .int .i64 (freeBn x0 xs1).n] 30))
  clear hq30'''''''
  have hq32''''''' := hq32''''''.below ((Below.refl _ _).alloc (Nat.le_refl _) (.cells #[.slice A45 (freeBn x0 xs1).l.length d45, .slice B45 (freeBn x0 xs1).h.length e45, .slice C45 (freeBn x0 xs1).w.length f45, .slice D45 (freeBn x0 xs1).f.length g45, .int .i64 (freeBn x0 xs1).n] 30))
  clear hq32''''''
  have hq36''''' := hq36''''.below ((Below.refl _ _).alloc (Nat.le_refl _) (.cells #[.slice A45 (freeBn x0 xs1).l.length d45, .slice B45 (freeBn x0 xs1).h.length e45, .slice C45 (freeBn x0 xs1).w.length f45, .slice D45 (freeBn x0 xs1).f.length g45, .int .i64 (freeBn x0 xs1).n] 30))
  clear hq36''''
  have ho26'''''''''' := ho26'''''''''.below ((Below.refl _ _).alloc (Nat.le_refl _) (.cells #[.slice A45 (freeBn x0 xs1).l.length d45, .slice B45 (freeBn x0 xs1).h.length e45, .slice C45 (freeBn x0 xs1).w.length f45, .slice D45 (freeBn x0 xs1).f.length g45, .int .i64 (freeBn x0 xs1).n] 30))
  clear ho26'''''''''
  have ho40''' := ho40''.below ((Below.refl _ _).alloc (Nat.le_refl _) (.cells #[.slice A45 (freeBn x0 xs1).l.length d45, .slice B45 (freeBn x0 xs1).h.length e45, .slice C45 (freeBn x0 xs1).w.length f45, .slice D45 (freeBn x0 xs1).f.length g45, .int .i64 (freeBn x0 xs1).n] 30))
  clear ho40''
  have ho42'' := ho42'.below ((Below.refl _ _).alloc (Nat.le_refl _) (.cells #[.slice A45 (freeBn x0 xs1).l.length d45, .slice B45 (freeBn x0 xs1).h.length e45, .slice C45 (freeBn x0 xs1).w.length f45, .slice D45 (freeBn x0 xs1).f.length g45, .int .i64 (freeBn x0 xs1).n] 30))
  clear ho42'
  have ho45' := ho45.below ((Below.refl _ _).alloc (Nat.le_refl _) (.cells #[.slice A45 (freeBn x0 xs1).l.length d45, .slice B45 (freeBn x0 xs1).h.length e45, .slice C45 (freeBn x0 xs1).w.length f45, .slice D45 (freeBn x0 xs1).f.length g45, .int .i64 (freeBn x0 xs1).n] 30))
  clear ho45
  have hB'''''''''''''''''''''''' := hB'''''''''''''''''''''''.alloc hB'''''''''''''''''''''''.size (.cells #[.slice A45 (freeBn x0 xs1).l.length d45, .slice B45 (freeBn x0 xs1).h.length e45, .slice C45 (freeBn x0 xs1).w.length f45, .slice D45 (freeBn x0 xs1).f.length g45, .int .i64 (freeBn x0 xs1).n] 30)
  clear hB'''''''''''''''''''''''
  have k47 := Bk.new w44 #[.slice A45 (freeBn x0 xs1).l.length d45, .slice B45 (freeBn x0 xs1).h.length e45, .slice C45 (freeBn x0 xs1).w.length f45, .slice D45 (freeBn x0 xs1).f.length g45, .int .i64 (freeBn x0 xs1).n] 30
  refine (eqBench _ _ _ _ _ _ _ _ ((freeBn x0 xs1)) ((freeBn x0 xs1)) _ ho45'.rd ho9'''''''''''''''''''.rd).mono ?_
  rintro e w48 ⟨rfl, hb48⟩
  rw [decide_eq_true rfl]
  have sz49 := hb48.size
  try simp only [World.size_alloc] at sz49
  have hB''''''''''''''''''''''''' := hB''''''''''''''''''''''''.trans (hb48.mono hB''''''''''''''''''''''''.size)
  clear hB''''''''''''''''''''''''
  have k1'''''''''''''''''''''''' := k1'''''''''''''''''''''''.below hb48 k1'''''''''''''''''''''''.lt
  clear k1'''''''''''''''''''''''
  have k11''''''''''''''''''' := k11''''''''''''''''''.below hb48 k11''''''''''''''''''.lt
  clear k11''''''''''''''''''
  have k14''''''''''''''''' := k14''''''''''''''''.below hb48 k14''''''''''''''''.lt
  clear k14''''''''''''''''
  have k20'''''''''''''' := k20'''''''''''''.below hb48 k20'''''''''''''.lt
  clear k20'''''''''''''
  have k47' := k47.below hb48 k47.lt
  clear k47
  have ho4'''''''''''''''''''''' := ho4'''''''''''''''''''''.below hb48
  clear ho4'''''''''''''''''''''
  have ho6''''''''''''''''''''' := ho6''''''''''''''''''''.below hb48
  clear ho6''''''''''''''''''''
  have ho9'''''''''''''''''''' := ho9'''''''''''''''''''.below hb48
  clear ho9'''''''''''''''''''
  have hq30''''''''' := hq30''''''''.below hb48
  clear hq30''''''''
  have hq32'''''''' := hq32'''''''.below hb48
  clear hq32'''''''
  have hq36'''''' := hq36'''''.below hb48
  clear hq36'''''
  have ho26''''''''''' := ho26''''''''''.below hb48
  clear ho26''''''''''
  have ho40'''' := ho40'''.below hb48
  clear ho40'''
  have ho42''' := ho42''.below hb48
  clear ho42''
  have ho45'' := ho45'.below hb48
  clear ho45'
  obtain ⟨hc1x0, gc1x0⟩ := k1''''''''''''''''''''''''.at_ 0 (x := .slice Aa0 x0.l.length da0) rfl
  obtain ⟨hc1x1, gc1x1⟩ := k1''''''''''''''''''''''''.at_ 1 (x := .slice Ba0 x0.h.length ea0) rfl
  obtain ⟨hc1x2, gc1x2⟩ := k1''''''''''''''''''''''''.at_ 2 (x := .slice Ca0 x0.w.length fa0) rfl
  obtain ⟨hc1x3, gc1x3⟩ := k1''''''''''''''''''''''''.at_ 3 (x := .slice Da0 x0.f.length ga0) rfl
  obtain ⟨hc1x4, gc1x4⟩ := k1''''''''''''''''''''''''.at_ 4 (x := .int .i64 x0.n) rfl
  have l1 := k1''''''''''''''''''''''''.lt
  obtain ⟨hc11x0, gc11x0⟩ := k11'''''''''''''''''''.at_ 0 (x := .slice A9 (freeBn x0 xs1).l.length d9) rfl
  obtain ⟨hc11x1, gc11x1⟩ := k11'''''''''''''''''''.at_ 1 (x := .slice B9 (freeBn x0 xs1).h.length e9) rfl
  obtain ⟨hc11x2, gc11x2⟩ := k11'''''''''''''''''''.at_ 2 (x := .slice C9 (freeBn x0 xs1).w.length f9) rfl
  obtain ⟨hc11x3, gc11x3⟩ := k11'''''''''''''''''''.at_ 3 (x := .slice D9 (freeBn x0 xs1).f.length g9) rfl
  obtain ⟨hc11x4, gc11x4⟩ := k11'''''''''''''''''''.at_ 4 (x := .int .i64 (freeBn x0 xs1).n) rfl
  have l11 := k11'''''''''''''''''''.lt
  obtain ⟨hc14x0, gc14x0⟩ := k14'''''''''''''''''.at_ 0 (x := .slice A12 x0.l.length d12) rfl
  obtain ⟨hc14x1, gc14x1⟩ := k14'''''''''''''''''.at_ 1 (x := .slice B12 x0.h.length e12) rfl
  obtain ⟨hc14x2, gc14x2⟩ := k14'''''''''''''''''.at_ 2 (x := .slice C12 x0.w.length f12) rfl
  obtain ⟨hc14x3, gc14x3⟩ := k14'''''''''''''''''.at_ 3 (x := .slice D12 x0.f.length g12) rfl
  obtain ⟨hc14x4, gc14x4⟩ := k14'''''''''''''''''.at_ 4 (x := .int .i64 x0.n) rfl
  have l14 := k14'''''''''''''''''.lt
  obtain ⟨hc20x0, gc20x0⟩ := k20''''''''''''''.at_ 0 (x := .slice A18 (freeBn x0 xs1).l.length d18) rfl
  obtain ⟨hc20x1, gc20x1⟩ := k20''''''''''''''.at_ 1 (x := .slice B18 (freeBn x0 xs1).h.length e18) rfl
  obtain ⟨hc20x2, gc20x2⟩ := k20''''''''''''''.at_ 2 (x := .slice C18 (freeBn x0 xs1).w.length f18) rfl
  obtain ⟨hc20x3, gc20x3⟩ := k20''''''''''''''.at_ 3 (x := .slice D18 (freeBn x0 xs1).f.length g18) rfl
  obtain ⟨hc20x4, gc20x4⟩ := k20''''''''''''''.at_ 4 (x := .int .i64 (freeBn x0 xs1).n) rfl
  have l20 := k20''''''''''''''.lt
  obtain ⟨hc47x0, gc47x0⟩ := k47'.at_ 0 (x := .slice A45 (freeBn x0 xs1).l.length d45) rfl
  obtain ⟨hc47x1, gc47x1⟩ := k47'.at_ 1 (x := .slice B45 (freeBn x0 xs1).h.length e45) rfl
  obtain ⟨hc47x2, gc47x2⟩ := k47'.at_ 2 (x := .slice C45 (freeBn x0 xs1).w.length f45) rfl
  obtain ⟨hc47x3, gc47x3⟩ := k47'.at_ 3 (x := .slice D45 (freeBn x0 xs1).f.length g45) rfl
  obtain ⟨hc47x4, gc47x4⟩ := k47'.at_ 4 (x := .int .i64 (freeBn x0 xs1).n) rfl
  have l47 := k47'.lt
  go_wp2_with fail
  refine (heldBench _ _ _ _ (freeBn x0 xs1) (1) _ hq36''''''.rd (by omega) (by omega) (by omega)).mono ?_
  rintro e w50 ⟨rfl, hb50⟩
  clear hc1x0 gc1x0 hc1x1 gc1x1 hc1x2 gc1x2 hc1x3 gc1x3 hc1x4 gc1x4 l1 hc11x0 gc11x0 hc11x1 gc11x1 hc11x2 gc11x2 hc11x3 gc11x3 hc11x4 gc11x4 l11 hc14x0 gc14x0 hc14x1 gc14x1 hc14x2 gc14x2 hc14x3 gc14x3 hc14x4 gc14x4 l14 hc20x0 gc20x0 hc20x1 gc20x1 hc20x2 gc20x2 hc20x3 gc20x3 hc20x4 gc20x4 l20 hc47x0 gc47x0 hc47x1 gc47x1 hc47x2 gc47x2 hc47x3 gc47x3 hc47x4 gc47x4 l47
  have sz51 := hb50.size
  try simp only [World.size_alloc] at sz51
  have hB'''''''''''''''''''''''''' := hB'''''''''''''''''''''''''.trans (hb50.mono hB'''''''''''''''''''''''''.size)
  clear hB'''''''''''''''''''''''''
  have k1''''''''''''''''''''''''' := k1''''''''''''''''''''''''.below hb50 k1''''''''''''''''''''''''.lt
  clear k1''''''''''''''''''''''''
  have k11'''''''''''''''''''' := k11'''''''''''''''''''.below hb50 k11'''''''''''''''''''.lt
  clear k11'''''''''''''''''''
  have k14'''''''''''''''''' := k14'''''''''''''''''.below hb50 k14'''''''''''''''''.lt
  clear k14'''''''''''''''''
  have k20''''''''''''''' := k20''''''''''''''.below hb50 k20''''''''''''''.lt
  clear k20''''''''''''''
  have k47'' := k47'.below hb50 k47'.lt
  clear k47'
  have ho4''''''''''''''''''''''' := ho4''''''''''''''''''''''.below hb50
  clear ho4''''''''''''''''''''''
  have ho6'''''''''''''''''''''' := ho6'''''''''''''''''''''.below hb50
  clear ho6'''''''''''''''''''''
  have ho9''''''''''''''''''''' := ho9''''''''''''''''''''.below hb50
  clear ho9''''''''''''''''''''
  have hq30'''''''''' := hq30'''''''''.below hb50
  clear hq30'''''''''
  have hq32''''''''' := hq32''''''''.below hb50
  clear hq32''''''''
  have hq36''''''' := hq36''''''.below hb50
  clear hq36''''''
  have ho26'''''''''''' := ho26'''''''''''.below hb50
  clear ho26'''''''''''
  have ho40''''' := ho40''''.below hb50
  clear ho40''''
  have ho42'''' := ho42'''.below hb50
  clear ho42'''
  have ho45''' := ho45''.below hb50
  clear ho45''
  obtain ⟨hc1x0, gc1x0⟩ := k1'''''''''''''''''''''''''.at_ 0 (x := .slice Aa0 x0.l.length da0) rfl
  obtain ⟨hc1x1, gc1x1⟩ := k1'''''''''''''''''''''''''.at_ 1 (x := .slice Ba0 x0.h.length ea0) rfl
  obtain ⟨hc1x2, gc1x2⟩ := k1'''''''''''''''''''''''''.at_ 2 (x := .slice Ca0 x0.w.length fa0) rfl
  obtain ⟨hc1x3, gc1x3⟩ := k1'''''''''''''''''''''''''.at_ 3 (x := .slice Da0 x0.f.length ga0) rfl
  obtain ⟨hc1x4, gc1x4⟩ := k1'''''''''''''''''''''''''.at_ 4 (x := .int .i64 x0.n) rfl
  have l1 := k1'''''''''''''''''''''''''.lt
  obtain ⟨hc11x0, gc11x0⟩ := k11''''''''''''''''''''.at_ 0 (x := .slice A9 (freeBn x0 xs1).l.length d9) rfl
  obtain ⟨hc11x1, gc11x1⟩ := k11''''''''''''''''''''.at_ 1 (x := .slice B9 (freeBn x0 xs1).h.length e9) rfl
  obtain ⟨hc11x2, gc11x2⟩ := k11''''''''''''''''''''.at_ 2 (x := .slice C9 (freeBn x0 xs1).w.length f9) rfl
  obtain ⟨hc11x3, gc11x3⟩ := k11''''''''''''''''''''.at_ 3 (x := .slice D9 (freeBn x0 xs1).f.length g9) rfl
  obtain ⟨hc11x4, gc11x4⟩ := k11''''''''''''''''''''.at_ 4 (x := .int .i64 (freeBn x0 xs1).n) rfl
  have l11 := k11''''''''''''''''''''.lt
  obtain ⟨hc14x0, gc14x0⟩ := k14''''''''''''''''''.at_ 0 (x := .slice A12 x0.l.length d12) rfl
  obtain ⟨hc14x1, gc14x1⟩ := k14''''''''''''''''''.at_ 1 (x := .slice B12 x0.h.length e12) rfl
  obtain ⟨hc14x2, gc14x2⟩ := k14''''''''''''''''''.at_ 2 (x := .slice C12 x0.w.length f12) rfl
  obtain ⟨hc14x3, gc14x3⟩ := k14''''''''''''''''''.at_ 3 (x := .slice D12 x0.f.length g12) rfl
  obtain ⟨hc14x4, gc14x4⟩ := k14''''''''''''''''''.at_ 4 (x := .int .i64 x0.n) rfl
  have l14 := k14''''''''''''''''''.lt
  obtain ⟨hc20x0, gc20x0⟩ := k20'''''''''''''''.at_ 0 (x := .slice A18 (freeBn x0 xs1).l.length d18) rfl
  obtain ⟨hc20x1, gc20x1⟩ := k20'''''''''''''''.at_ 1 (x := .slice B18 (freeBn x0 xs1).h.length e18) rfl
  obtain ⟨hc20x2, gc20x2⟩ := k20'''''''''''''''.at_ 2 (x := .slice C18 (freeBn x0 xs1).w.length f18) rfl
  obtain ⟨hc20x3, gc20x3⟩ := k20'''''''''''''''.at_ 3 (x := .slice D18 (freeBn x0 xs1).f.length g18) rfl
  obtain ⟨hc20x4, gc20x4⟩ := k20'''''''''''''''.at_ 4 (x := .int .i64 (freeBn x0 xs1).n) rfl
  have l20 := k20'''''''''''''''.lt
  obtain ⟨hc47x0, gc47x0⟩ := k47''.at_ 0 (x := .slice A45 (freeBn x0 xs1).l.length d45) rfl
  obtain ⟨hc47x1, gc47x1⟩ := k47''.at_ 1 (x := .slice B45 (freeBn x0 xs1).h.length e45) rfl
  obtain ⟨hc47x2, gc47x2⟩ := k47''.at_ 2 (x := .slice C45 (freeBn x0 xs1).w.length f45) rfl
  obtain ⟨hc47x3, gc47x3⟩ := k47''.at_ 3 (x := .slice D45 (freeBn x0 xs1).f.length g45) rfl
  obtain ⟨hc47x4, gc47x4⟩ := k47''.at_ 4 (x := .int .i64 (freeBn x0 xs1).n) rfl
  have l47 := k47''.lt
  go_wp2_with fail
  go_ret
  exact ⟨rfl, hB''''''''''''''''''''''''''⟩
set_option maxRecDepth 100000 in
theorem lift_FreeSome (os : Os) (started : os.Started) (H : Type) (enc : TypeId × Value → H) :
    ReturnsInHanded {} Try.checked os 11 .any (Rows.fnExactFreeSomeSpec.pre6 enc Try.prog Try.f11 Rows.fnExactFreeSomeRow.domain false) (Rows.fnExactFreeSomeSpec.post enc Try.prog Try.f11 false true false false) := by
  refine returnsInHanded_of_change (C := Try.checked) (by kernel_rfl) started (by kernel_rfl) Try.func11
    (ChangeSpec.witness6 (enc := enc) (C := Try.checked) false ⟨#[], #[.agg #[.slice none 0 0, .slice none 0 0, .slice none 0 0, .slice none 0 0, .int .i64 0], .slice none 0 0], []⟩ 8 (by kernel_rfl) (by kernel_rfl) (by kernel_rfl) (by kernel_rfl)) ?_
  intro W base args ds gs before hval0 hW hcnd _
  have hval : ∀ (j : Nat) t v, Try.f11.params[j]? = some t → args[j]? = some v → Value.okWide Try.prog W .any base t v := hval0
  have hW' := hW
  obtain ⟨p, q, hA0, hV, rfl, hfz, hnd⟩ := hW
  have hA : DataW.TrodAll enc Try.prog W 0 (fun _ => true) true Try.f11.params.toList args.toList ds p := hA0
  rw [Try.params11] at hA hval
  obtain ⟨v0, vs0, d0, ds0, p0, q0, hargs, rfl, rfl, h0, r0⟩ := trodAll_cons hA
  obtain ⟨v1, vs1, d1, ds1, p1, q1, rfl, rfl, rfl, h1, r1⟩ := trodAll_cons r0
  obtain ⟨rfl, rfl, rfl⟩ := trodAll_nil r1
  obtain rfl : args = #[v0, v1] := by cases args; simp_all
  obtain ⟨rfl, rfl⟩ := trodVars_none hV
  obtain ⟨c0, u0, s0, t0, x0, rfl, hR0, hI0⟩ := read_bench Try.underlying25 ⟨⟨rfl, rfl⟩, rfl, rfl, rfl⟩ (by decide +kernel) ⟨⟨by kernel_rfl, by kernel_rfl⟩, by kernel_rfl, by kernel_rfl, by kernel_rfl⟩ Try.underlying22 Try.underlying3 (by kernel_rfl) Try.underlying23 Try.underlying75 (by kernel_rfl) ⟨rfl, rfl⟩ (by decide +kernel) ⟨Try.underlying3, Try.underlying3⟩ Try.underlying22 Try.underlying22 Try.underlying3 (hval 0 _ v0 rfl rfl) h0
  obtain ⟨c1, l1, e1, rfl⟩ := okWide_slice Try.underlying22 (hval 1 _ v1 rfl rfl)
  obtain ⟨fuel1, hf1⟩ := h1
  obtain ⟨xs1, hR1, hI1⟩ := read_ints Try.underlying22 Try.underlying3 (by kernel_rfl) (by simpa [Value.cells] using hf1)
  refine (walk_FreeSome _ _ _ _ x0 _ xs1 W hR0 hI0 hR1 hI1).mono fun e W' ⟨he, hb⟩ => ?_
  subst he
  exact ⟨_, rfl, post_law (by kernel_rfl) rfl rfl (by kernel_rfl) Try.underlying4 (of_decide_eq_true (by kernel_rfl)) hW' hb⟩
theorem FnExactFreeSome_holds : Rows.FnExactFreeSomeSaid :=
  OpenClaim.holds_of_wide 11 Try.f11 rfl rfl rfl rfl rfl rfl rfl ⟨rfl, rfl, rfl, rfl, rfl⟩ rfl rfl rfl rfl rfl (by kernel_rfl) Try.func11 (by kernel_rfl)
    (of_decide_eq_true (by kernel_rfl)) (by unfold Func.isWrapper; first | (rw [if_pos (by decide +kernel)]; kernel_rfl) | (rw [if_neg (by decide +kernel)]; exact ⟨rfl, rfl⟩))
    (fun os started H enc _ => lift_FreeSome os started H enc)
#print axioms FnExactFreeSome_holds
end Go.Proofs.Ytaokpfdjbpobpaa
