/- FnExactGarbage answers true at every input: Garbage answers as its model does, leaves its arguments alone and owns its answer. Conditions: none. -/
import Derived.Test.YtkpgjeeofghldaaLaw
import Derived.Test.YtkpgjeeofghldaaLaw9
import Derived.Test.YtkpgjeeofghldaaMN
import Derived.Test.YtkpgjeeofghldaaG1
import Derived.Deep.RegionHeld3
namespace Go.Proofs.Ytkpgjeeofghldaa
set_option maxRecDepth 20000
set_option linter.unusedSimpArgs false
set_option linter.unusedVariables false
open Go.ChangeShapes Go.WideShapes Go.ChangeAt Go.RowKit
set_option linter.unusedVariables false
set_option maxHeartbeats 4000000 in
theorem walk_Garbage (v0 u0 s0 r0 : Value) (x0 : Bn) (w : World) (hA0 : RdABn w v0 u0 s0 r0 x0) (hS0 : BnR x0) :
    Calls Try.prog 3 #[.agg #[v0, u0, s0, r0, .int .i64 x0.n]] w fun e w' => e = .returned (.bool true) ∧ Below w.heap.size w w' := by
  obtain ⟨Aa0, da0, Ba0, ea0, Ca0, fa0, Da0, ga0, rfl, rfl, rfl, rfl⟩ := hA0.slices
  have HAaB := Lib.hid hA0
  clear hA0
  have hB := Below.refl w.heap.size w
  go_enter Try.func3, Try.ntmps3
  go_wp2_with fail
  have hB' := hB.alloc hB.size (.cells #[.slice Aa0 x0.l.length da0, .slice Ba0 x0.h.length ea0, .slice Ca0 x0.w.length fa0, .slice Da0 x0.f.length ga0, .int .i64 x0.n] 25)
  clear hB
  have k1 := Bk.new w #[.slice Aa0 x0.l.length da0, .slice Ba0 x0.h.length ea0, .slice Ca0 x0.w.length fa0, .slice Da0 x0.f.length ga0, .int .i64 x0.n] 25
  refine (szBench _ _ _ _ x0 (1048576) _ (HAaB.out.below hB') (by omega) (by omega)).mono ?_
  rintro e w2 ⟨rfl, hb2⟩
  have sz3 := hb2.size
  try simp only [World.size_alloc] at sz3
  have hB'' := hB'.trans (hb2.mono hB'.size)
  clear hB'
  have k1' := k1.below hb2 k1.lt
  clear k1
  by_cases hn2 : (1048576 : Int) - (szBn x0) < 0
  · rw [show szF (szBn x0) (1048576) = -1 by unfold szF; rw [if_pos hn2]]
    go_wp2_with fail
    go_ret
    exact ⟨rfl, hB''⟩
  rw [show szF (szBn x0) (1048576) = 1048576 - (szBn x0) by unfold szF; rw [if_neg hn2]]
  obtain ⟨hc1x0, gc1x0⟩ := k1'.at_ 0 (x := .slice Aa0 x0.l.length da0) rfl
  obtain ⟨hc1x1, gc1x1⟩ := k1'.at_ 1 (x := .slice Ba0 x0.h.length ea0) rfl
  obtain ⟨hc1x2, gc1x2⟩ := k1'.at_ 2 (x := .slice Ca0 x0.w.length fa0) rfl
  obtain ⟨hc1x3, gc1x3⟩ := k1'.at_ 3 (x := .slice Da0 x0.f.length ga0) rfl
  obtain ⟨hc1x4, gc1x4⟩ := k1'.at_ 4 (x := .int .i64 x0.n) rfl
  have l1 := k1'.lt
  go_wp2_with fail
  refine (toBench _ _ _ _ x0 _ (HAaB.out.below hB'') (by omega)).mono ?_
  rintro e w4 ⟨v4x0, v4x1, v4x2, v4x3, bs4, rfl, ho4, lo4, hb4⟩
  clear hc1x0 gc1x0 hc1x1 gc1x1 hc1x2 gc1x2 hc1x3 gc1x3 hc1x4 gc1x4 l1
  have sz5 := hb4.size
  try simp only [World.size_alloc] at sz5
  have hB''' := hB''.trans (hb4.mono hB''.size)
  clear hB''
  have k1'' := k1'.below hb4 k1'.lt
  clear k1'
  have hi4 := ho4.lt
  try simp only [World.size_alloc] at lo4
  obtain ⟨A4, d4, B4, e4, C4, f4, D4, g4, rfl, rfl, rfl, rfl⟩ := ho4.slices
  obtain ⟨hc1x0, gc1x0⟩ := k1''.at_ 0 (x := .slice Aa0 x0.l.length da0) rfl
  obtain ⟨hc1x1, gc1x1⟩ := k1''.at_ 1 (x := .slice Ba0 x0.h.length ea0) rfl
  obtain ⟨hc1x2, gc1x2⟩ := k1''.at_ 2 (x := .slice Ca0 x0.w.length fa0) rfl
  obtain ⟨hc1x3, gc1x3⟩ := k1''.at_ 3 (x := .slice Da0 x0.f.length ga0) rfl
  obtain ⟨hc1x4, gc1x4⟩ := k1''.at_ 4 (x := .int .i64 x0.n) rfl
  have l1 := k1''.lt
  go_wp2_with fail
  refine (spec_Garbage _ _ _ _ x0 _ ho4.rd (by omega)).mono ?_
  rintro e w6 ⟨rfl, hb6⟩
  clear hc1x0 gc1x0 hc1x1 gc1x1 hc1x2 gc1x2 hc1x3 gc1x3 hc1x4 gc1x4 l1
  have sz7 := hb6.size
  try simp only [World.size_alloc] at sz7
  have hB'''' := hB'''.trans (hb6.mono hB'''.size)
  clear hB'''
  have k1''' := k1''.below hb6 k1''.lt
  clear k1''
  have ho4' := ho4.below hb6
  clear ho4
  obtain ⟨hc1x0, gc1x0⟩ := k1'''.at_ 0 (x := .slice Aa0 x0.l.length da0) rfl
  obtain ⟨hc1x1, gc1x1⟩ := k1'''.at_ 1 (x := .slice Ba0 x0.h.length ea0) rfl
  obtain ⟨hc1x2, gc1x2⟩ := k1'''.at_ 2 (x := .slice Ca0 x0.w.length fa0) rfl
  obtain ⟨hc1x3, gc1x3⟩ := k1'''.at_ 3 (x := .slice Da0 x0.f.length ga0) rfl
  obtain ⟨hc1x4, gc1x4⟩ := k1'''.at_ 4 (x := .int .i64 x0.n) rfl
  have l1 := k1'''.lt
  go_wp2_with fail
  refine (toBench _ _ _ _ x0 _ (HAaB.out.below hB'''') (by omega)).mono ?_
  rintro e w8 ⟨v8x0, v8x1, v8x2, v8x3, bs8, rfl, ho8, lo8, hb8⟩
  clear hc1x0 gc1x0 hc1x1 gc1x1 hc1x2 gc1x2 hc1x3 gc1x3 hc1x4 gc1x4 l1
  have sz9 := hb8.size
  try simp only [World.size_alloc] at sz9
  have hB''''' := hB''''.trans (hb8.mono hB''''.size)
  clear hB''''
  have k1'''' := k1'''.below hb8 k1'''.lt
  clear k1'''
  have ho4'' := ho4'.below hb8
  clear ho4'
  have hi8 := ho8.lt
  try simp only [World.size_alloc] at lo8
  obtain ⟨A8, d8, B8, e8, C8, f8, D8, g8, rfl, rfl, rfl, rfl⟩ := ho8.slices
  obtain ⟨hc1x0, gc1x0⟩ := k1''''.at_ 0 (x := .slice Aa0 x0.l.length da0) rfl
  obtain ⟨hc1x1, gc1x1⟩ := k1''''.at_ 1 (x := .slice Ba0 x0.h.length ea0) rfl
  obtain ⟨hc1x2, gc1x2⟩ := k1''''.at_ 2 (x := .slice Ca0 x0.w.length fa0) rfl
  obtain ⟨hc1x3, gc1x3⟩ := k1''''.at_ 3 (x := .slice Da0 x0.f.length ga0) rfl
  obtain ⟨hc1x4, gc1x4⟩ := k1''''.at_ 4 (x := .int .i64 x0.n) rfl
  have l1 := k1''''.lt
  go_wp2_with fail
  clear hc1x0 gc1x0 hc1x1 gc1x1 hc1x2 gc1x2 hc1x3 gc1x3 hc1x4 gc1x4 l1
  have k1''''' := k1''''.alloc (.cells #[.slice A8 x0.l.length d8, .slice B8 x0.h.length e8, .slice C8 x0.w.length f8, .slice D8 x0.f.length g8, .int .i64 x0.n] 30)
  clear k1''''
  have ho4''' := ho4''.below ((Below.refl _ _).alloc (Nat.le_refl _) (.cells #[.slice A8 x0.l.length d8, .slice B8 x0.h.length e8, .slice C8 x0.w.length f8, .slice D8 x0.f.length g8, .int .i64 x0.n] 30))
  clear ho4''
  have ho8' := ho8.below ((Below.refl _ _).alloc (Nat.le_refl _) (.cells #[.slice A8 x0.l.length d8, .slice B8 x0.h.length e8, .slice C8 x0.w.length f8, .slice D8 x0.f.length g8, .int .i64 x0.n] 30))
  clear ho8
  have hB'''''' := hB'''''.alloc hB'''''.size (.cells #[.slice A8 x0.l.length d8, .slice B8 x0.h.length e8, .slice C8 x0.w.length f8, .slice D8 x0.f.length g8, .int .i64 x0.n] 30)
  clear hB'''''
  have k10 := Bk.new w8 #[.slice A8 x0.l.length d8, .slice B8 x0.h.length e8, .slice C8 x0.w.length f8, .slice D8 x0.f.length g8, .int .i64 x0.n] 30
  refine (impl_Garbage _ _ _ _ x0 _ ho8'.rd hS0 (by omega)).mono ?_
  rintro e w11 ⟨rfl, hb11⟩
  have sz12 := hb11.size
  try simp only [World.size_alloc] at sz12
  have hB''''''' := hB''''''.trans (hb11.mono hB''''''.size)
  clear hB''''''
  have k1'''''' := k1'''''.below hb11 k1'''''.lt
  clear k1'''''
  have k10' := k10.below hb11 k10.lt
  clear k10
  have ho4'''' := ho4'''.below hb11
  clear ho4'''
  have ho8'' := ho8'.below hb11
  clear ho8'
  obtain ⟨hc1x0, gc1x0⟩ := k1''''''.at_ 0 (x := .slice Aa0 x0.l.length da0) rfl
  obtain ⟨hc1x1, gc1x1⟩ := k1''''''.at_ 1 (x := .slice Ba0 x0.h.length ea0) rfl
  obtain ⟨hc1x2, gc1x2⟩ := k1''''''.at_ 2 (x := .slice Ca0 x0.w.length fa0) rfl
  obtain ⟨hc1x3, gc1x3⟩ := k1''''''.at_ 3 (x := .slice Da0 x0.f.length ga0) rfl
  obtain ⟨hc1x4, gc1x4⟩ := k1''''''.at_ 4 (x := .int .i64 x0.n) rfl
  have l1 := k1''''''.lt
  obtain ⟨hc10x0, gc10x0⟩ := k10'.at_ 0 (x := .slice A8 x0.l.length d8) rfl
  obtain ⟨hc10x1, gc10x1⟩ := k10'.at_ 1 (x := .slice B8 x0.h.length e8) rfl
  obtain ⟨hc10x2, gc10x2⟩ := k10'.at_ 2 (x := .slice C8 x0.w.length f8) rfl
  obtain ⟨hc10x3, gc10x3⟩ := k10'.at_ 3 (x := .slice D8 x0.f.length g8) rfl
  obtain ⟨hc10x4, gc10x4⟩ := k10'.at_ 4 (x := .int .i64 x0.n) rfl
  have l10 := k10'.lt
  go_wp2_with fail
  clear hc1x0 gc1x0 hc1x1 gc1x1 hc1x2 gc1x2 hc1x3 gc1x3 hc1x4 gc1x4 l1 hc10x0 gc10x0 hc10x1 gc10x1 hc10x2 gc10x2 hc10x3 gc10x3 hc10x4 gc10x4 l10
  obtain ⟨hc1x0, gc1x0⟩ := k1''''''.at_ 0 (x := .slice Aa0 x0.l.length da0) rfl
  obtain ⟨hc1x1, gc1x1⟩ := k1''''''.at_ 1 (x := .slice Ba0 x0.h.length ea0) rfl
  obtain ⟨hc1x2, gc1x2⟩ := k1''''''.at_ 2 (x := .slice Ca0 x0.w.length fa0) rfl
  obtain ⟨hc1x3, gc1x3⟩ := k1''''''.at_ 3 (x := .slice Da0 x0.f.length ga0) rfl
  obtain ⟨hc1x4, gc1x4⟩ := k1''''''.at_ 4 (x := .int .i64 x0.n) rfl
  have l1 := k1''''''.lt
  obtain ⟨hc10x0, gc10x0⟩ := k10'.at_ 0 (x := .slice A8 x0.l.length d8) rfl
  obtain ⟨hc10x1, gc10x1⟩ := k10'.at_ 1 (x := .slice B8 x0.h.length e8) rfl
  obtain ⟨hc10x2, gc10x2⟩ := k10'.at_ 2 (x := .slice C8 x0.w.length f8) rfl
  obtain ⟨hc10x3, gc10x3⟩ := k10'.at_ 3 (x := .slice D8 x0.f.length g8) rfl
  obtain ⟨hc10x4, gc10x4⟩ := k10'.at_ 4 (x := .int .i64 x0.n) rfl
  have l10 := k10'.lt
  have HS14 : Hid (∀ W : World, Below w11.heap.size w11 W → Below w11.heap.size w11 W ∧ W.cell? ⟨w8.heap.size, 0, none⟩ = some (.slice A8 x0.l.length d8) ∧ W.cell? ⟨w8.heap.size, 1, none⟩ = some (.slice B8 x0.h.length e8) ∧ W.cell? ⟨w8.heap.size, 2, none⟩ = some (.slice C8 x0.w.length f8) ∧ W.cell? ⟨w8.heap.size, 3, none⟩ = some (.slice D8 x0.f.length g8) ∧ W.cell? ⟨w8.heap.size, 4, none⟩ = some (.int .i64 x0.n) ∧ W.cell? ⟨w.heap.size, 0, none⟩ = some (.slice Aa0 x0.l.length da0) ∧ W.cell? ⟨w.heap.size, 1, none⟩ = some (.slice Ba0 x0.h.length ea0) ∧ W.cell? ⟨w.heap.size, 2, none⟩ = some (.slice Ca0 x0.w.length fa0) ∧ W.cell? ⟨w.heap.size, 3, none⟩ = some (.slice Da0 x0.f.length ga0) ∧ W.cell? ⟨w.heap.size, 4, none⟩ = some (.int .i64 x0.n)) := Lib.hid fun W hW => ⟨hW, (hW.cell (p := ⟨w8.heap.size, 0, none⟩) k10'.lt).trans hc10x0, (hW.cell (p := ⟨w8.heap.size, 1, none⟩) k10'.lt).trans hc10x1, (hW.cell (p := ⟨w8.heap.size, 2, none⟩) k10'.lt).trans hc10x2, (hW.cell (p := ⟨w8.heap.size, 3, none⟩) k10'.lt).trans hc10x3, (hW.cell (p := ⟨w8.heap.size, 4, none⟩) k10'.lt).trans hc10x4, (hW.cell (p := ⟨w.heap.size, 0, none⟩) k1''''''.lt).trans hc1x0, (hW.cell (p := ⟨w.heap.size, 1, none⟩) k1''''''.lt).trans hc1x1, (hW.cell (p := ⟨w.heap.size, 2, none⟩) k1''''''.lt).trans hc1x2, (hW.cell (p := ⟨w.heap.size, 3, none⟩) k1''''''.lt).trans hc1x3, (hW.cell (p := ⟨w.heap.size, 4, none⟩) k1''''''.lt).trans hc1x4⟩
  have HhB_______ := Lib.hid hB'''''''
  have Hho4____ := Lib.hid ho4''''
  have Hho8__ := Lib.hid ho8''
  go_region_held3 (fun W => Below w11.heap.size w11 W ∧ W.cell? ⟨w8.heap.size, 0, none⟩ = some (.slice A8 x0.l.length d8) ∧ W.cell? ⟨w8.heap.size, 1, none⟩ = some (.slice B8 x0.h.length e8) ∧ W.cell? ⟨w8.heap.size, 2, none⟩ = some (.slice C8 x0.w.length f8) ∧ W.cell? ⟨w8.heap.size, 3, none⟩ = some (.slice D8 x0.f.length g8) ∧ W.cell? ⟨w8.heap.size, 4, none⟩ = some (.int .i64 x0.n) ∧ W.cell? ⟨w.heap.size, 0, none⟩ = some (.slice Aa0 x0.l.length da0) ∧ W.cell? ⟨w.heap.size, 1, none⟩ = some (.slice Ba0 x0.h.length ea0) ∧ W.cell? ⟨w.heap.size, 2, none⟩ = some (.slice Ca0 x0.w.length fa0) ∧ W.cell? ⟨w.heap.size, 3, none⟩ = some (.slice Da0 x0.f.length ga0) ∧ W.cell? ⟨w.heap.size, 4, none⟩ = some (.int .i64 x0.n)) (first | (exact HS14.out _ (Below.refl _ _).drew) | (exact HS14.out _ (by assumption)))
    (first
      | (go_at_call 6; have hS := ‹Below w11.heap.size w11 _ ∧ _›.1; refine (toBench _ _ _ _ x0 _ (HAaB.out.below (HhB_______.out.trans (hS.mono HhB_______.out.size))) (by omega)).mono ?_; rintro e wa13 ⟨vv0, vv1, vv2, vv3, bsw, rfl, how, low, hbw13⟩; have HO13 := Lib.hid how; clear how low; have hS14x0 := hS.trans (hbw13.mono hS.size); clear hS)
      | (go_at_call 8; have hS := ‹Below w11.heap.size w11 _ ∧ _›.1; refine (eqBench _ _ _ _ _ _ _ _ (x0) (x0) _ (Hho8__.out.below hS).rd HO13.out.rd).mono ?_; rintro e w13 ⟨rfl, hbe13⟩; have hS14x1 := hS.trans (hbe13.mono hS.size); clear hS))
  have hS14 := ‹Below w11.heap.size w11 _ ∧ _›.1
  clear HS14 HhB_______ Hho4____ Hho8__
  clear hc1x0 gc1x0 hc1x1 gc1x1 hc1x2 gc1x2 hc1x3 gc1x3 hc1x4 gc1x4 l1 hc10x0 gc10x0 hc10x1 gc10x1 hc10x2 gc10x2 hc10x3 gc10x3 hc10x4 gc10x4 l10
  have sz15 := hS14.size
  try simp only [World.size_alloc] at sz15
  have hB'''''''' := hB'''''''.trans (hS14.mono hB'''''''.size)
  clear hB'''''''
  have k1''''''' := k1''''''.below hS14 k1''''''.lt
  clear k1''''''
  have k10'' := k10'.below hS14 k10'.lt
  clear k10'
  have ho4''''' := ho4''''.below hS14
  clear ho4''''
  have ho8''' := ho8''.below hS14
  clear ho8''
  clear hS14
  clear HO13
  obtain ⟨hc1x0, gc1x0⟩ := k1'''''''.at_ 0 (x := .slice Aa0 x0.l.length da0) rfl
  obtain ⟨hc1x1, gc1x1⟩ := k1'''''''.at_ 1 (x := .slice Ba0 x0.h.length ea0) rfl
  obtain ⟨hc1x2, gc1x2⟩ := k1'''''''.at_ 2 (x := .slice Ca0 x0.w.length fa0) rfl
  obtain ⟨hc1x3, gc1x3⟩ := k1'''''''.at_ 3 (x := .slice Da0 x0.f.length ga0) rfl
  obtain ⟨hc1x4, gc1x4⟩ := k1'''''''.at_ 4 (x := .int .i64 x0.n) rfl
  have l1 := k1'''''''.lt
  obtain ⟨hc10x0, gc10x0⟩ := k10''.at_ 0 (x := .slice A8 x0.l.length d8) rfl
  obtain ⟨hc10x1, gc10x1⟩ := k10''.at_ 1 (x := .slice B8 x0.h.length e8) rfl
  obtain ⟨hc10x2, gc10x2⟩ := k10''.at_ 2 (x := .slice C8 x0.w.length f8) rfl
  obtain ⟨hc10x3, gc10x3⟩ := k10''.at_ 3 (x := .slice D8 x0.f.length g8) rfl
  obtain ⟨hc10x4, gc10x4⟩ := k10''.at_ 4 (x := .int .i64 x0.n) rfl
  have l10 := k10''.lt
  go_wp2_with fail
  go_ret
  exact ⟨rfl, hB''''''''⟩
set_option maxRecDepth 100000 in
theorem lift_Garbage (os : Os) (started : os.Started) (H : Type) (enc : TypeId × Value → H) :
    ReturnsInHanded {} Try.checked os 3 .any (Rows.fnExactGarbageSpec.pre6 enc Try.prog Try.f3 Rows.fnExactGarbageRow.domain false) (Rows.fnExactGarbageSpec.post enc Try.prog Try.f3 false true false false) := by
  refine returnsInHanded_of_change (C := Try.checked) (by kernel_rfl) started (by kernel_rfl) Try.func3
    (ChangeSpec.witness6 (enc := enc) (C := Try.checked) false ⟨#[], #[.agg #[.slice none 0 0, .slice none 0 0, .slice none 0 0, .slice none 0 0, .int .i64 0]], []⟩ 8 (by kernel_rfl) (by kernel_rfl) (by kernel_rfl) (by kernel_rfl)) ?_
  intro W base args ds gs before hval0 hW hcnd _
  have hval : ∀ (j : Nat) t v, Try.f3.params[j]? = some t → args[j]? = some v → Value.okWide Try.prog W .any base t v := hval0
  have hW' := hW
  obtain ⟨p, q, hA0, hV, rfl, hfz, hnd⟩ := hW
  have hA : DataW.TrodAll enc Try.prog W 0 (fun _ => true) true Try.f3.params.toList args.toList ds p := hA0
  rw [Try.params3] at hA hval
  obtain ⟨v0, vs0, d0, ds0, p0, q0, hargs, rfl, rfl, h0, r0⟩ := trodAll_cons hA
  obtain ⟨rfl, rfl, rfl⟩ := trodAll_nil r0
  obtain rfl : args = #[v0] := by cases args; simp_all
  obtain ⟨rfl, rfl⟩ := trodVars_none hV
  obtain ⟨c0, u0, s0, t0, x0, rfl, hR0, hI0⟩ := read_bench Try.underlying25 ⟨⟨rfl, rfl⟩, rfl, rfl, rfl⟩ (by decide +kernel) ⟨⟨by kernel_rfl, by kernel_rfl⟩, by kernel_rfl, by kernel_rfl, by kernel_rfl⟩ Try.underlying22 Try.underlying3 (by kernel_rfl) Try.underlying23 Try.underlying46 (by kernel_rfl) ⟨rfl, rfl⟩ (by decide +kernel) ⟨Try.underlying3, Try.underlying3⟩ Try.underlying22 Try.underlying22 Try.underlying3 (hval 0 _ v0 rfl rfl) h0
  refine (walk_Garbage _ _ _ _ x0 W hR0 hI0).mono fun e W' ⟨he, hb⟩ => ?_
  subst he
  exact ⟨_, rfl, post_law (by kernel_rfl) rfl rfl (by kernel_rfl) Try.underlying4 (of_decide_eq_true (by kernel_rfl)) hW' hb⟩
theorem FnExactGarbage_holds : Rows.FnExactGarbageSaid :=
  OpenClaim.holds_of_wide 3 Try.f3 rfl rfl rfl rfl rfl rfl rfl ⟨rfl, rfl, rfl, rfl, rfl⟩ rfl rfl rfl rfl rfl (by kernel_rfl) Try.func3 (by kernel_rfl)
    (of_decide_eq_true (by kernel_rfl)) (by unfold Func.isWrapper; first | (rw [if_pos (by decide +kernel)]; kernel_rfl) | (rw [if_neg (by decide +kernel)]; exact ⟨rfl, rfl⟩))
    (fun os started H enc _ => lift_Garbage os started H enc)
#print axioms FnExactGarbage_holds
end Go.Proofs.Ytkpgjeeofghldaa
