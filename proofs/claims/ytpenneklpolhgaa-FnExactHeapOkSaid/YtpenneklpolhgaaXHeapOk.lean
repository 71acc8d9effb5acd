/- FnExactHeapOk answers true at every input: HeapOk answers as its model does, leaves its arguments alone and owns its answer. Conditions: none. -/
import Derived.Test.YtpenneklpolhgaaLaw
import Derived.Test.YtpenneklpolhgaaLaw8
import Derived.Test.YtpenneklpolhgaaMH
import Derived.Test.YtpenneklpolhgaaH1
import Derived.Test.YtpenneklpolhgaaH6
import Derived.Deep.RegionHeld3
namespace Go.Proofs.Ytpenneklpolhgaa
set_option maxRecDepth 20000
set_option linter.unusedSimpArgs false
set_option linter.unusedVariables false
open Go.ChangeShapes Go.WideShapes Go.ChangeAt Go.RowKit
set_option linter.unusedVariables false
set_option maxHeartbeats 4000000 in
theorem walk_HeapOk (v0 u0 : Value) (x0 : Hp) (w : World) (hA0 : RdAHp w v0 u0 x0) :
    Calls Try.prog 3 #[.agg #[v0, u0]] w fun e w' => e = .returned (.bool true) ∧ Below w.heap.size w w' := by
  obtain ⟨Aa0, da0, Ba0, ea0, rfl, rfl⟩ := hA0.slices
  have HAaH := Lib.hid hA0
  clear hA0
  have hB := Below.refl w.heap.size w
  go_enter Try.func3, Try.ntmps3
  go_wp2_with fail
  have hB' := hB.alloc hB.size (.cells #[.slice Aa0 x0.g.length da0, .slice Ba0 x0.l.length ea0] 25)
  clear hB
  have k1 := Bk.new w #[.slice Aa0 x0.g.length da0, .slice Ba0 x0.l.length ea0] 25
  refine (szHeap _ _ x0 (1048576) _ (HAaH.out.below hB') (by omega) (by omega)).mono ?_
  rintro e w2 ⟨rfl, hb2⟩
  have sz3 := hb2.size
  try simp only [World.size_alloc] at sz3
  have hB'' := hB'.trans (hb2.mono hB'.size)
  clear hB'
  have k1' := k1.below hb2 k1.lt
  clear k1
  by_cases hn2 : (1048576 : Int) - (totHp x0) < 0
  · rw [show szF (totHp x0) (1048576) = -1 by unfold szF; rw [if_pos hn2]]
    go_wp2_with fail
    go_ret
    exact ⟨rfl, hB''⟩
  rw [show szF (totHp x0) (1048576) = 1048576 - (totHp x0) by unfold szF; rw [if_neg hn2]]
  obtain ⟨hc1x0, gc1x0⟩ := k1'.at_ 0 (x := .slice Aa0 x0.g.length da0) rfl
  obtain ⟨hc1x1, gc1x1⟩ := k1'.at_ 1 (x := .slice Ba0 x0.l.length ea0) rfl
  have l1 := k1'.lt
  go_wp2_with fail
  refine (toHeap _ _ x0 _ (HAaH.out.below hB'') (by omega)).mono ?_
  rintro e w4 ⟨v4x0, v4x1, bs4, rfl, ho4, lo4, hb4⟩
  clear hc1x0 gc1x0 hc1x1 gc1x1 l1
  have sz5 := hb4.size
  try simp only [World.size_alloc] at sz5
  have hB''' := hB''.trans (hb4.mono hB''.size)
  clear hB''
  have k1'' := k1'.below hb4 k1'.lt
  clear k1'
  have hi4 := ho4.lt
  try simp only [World.size_alloc] at lo4
  obtain ⟨A4, d4, B4, e4, rfl, rfl⟩ := ho4.slices
  obtain ⟨hc1x0, gc1x0⟩ := k1''.at_ 0 (x := .slice Aa0 x0.g.length da0) rfl
  obtain ⟨hc1x1, gc1x1⟩ := k1''.at_ 1 (x := .slice Ba0 x0.l.length ea0) rfl
  have l1 := k1''.lt
  go_wp2_with fail
  refine (spec_HeapOk _ _ x0 _ ho4.rd).mono ?_
  rintro e w6 ⟨rfl, hb6⟩
  clear hc1x0 gc1x0 hc1x1 gc1x1 l1
  have sz7 := hb6.size
  try simp only [World.size_alloc] at sz7
  have hB'''' := hB'''.trans (hb6.mono hB'''.size)
  clear hB'''
  have k1''' := k1''.below hb6 k1''.lt
  clear k1''
  have ho4' := ho4.below hb6
  clear ho4
  obtain ⟨hc1x0, gc1x0⟩ := k1'''.at_ 0 (x := .slice Aa0 x0.g.length da0) rfl
  obtain ⟨hc1x1, gc1x1⟩ := k1'''.at_ 1 (x := .slice Ba0 x0.l.length ea0) rfl
  have l1 := k1'''.lt
  go_wp2_with fail
  refine (toHeap _ _ x0 _ (HAaH.out.below hB'''') (by omega)).mono ?_
  rintro e w8 ⟨v8x0, v8x1, bs8, rfl, ho8, lo8, hb8⟩
  clear hc1x0 gc1x0 hc1x1 gc1x1 l1
  have sz9 := hb8.size
  try simp only [World.size_alloc] at sz9
  have hB''''' := hB''''.trans (hb8.mono hB''''.size)
  clear hB''''
  have k1'''' := k1'''.below hb8 k1'''.lt
  clear k1'''
  have ho4'' := ho4'.below hb8
  clear ho4'
  have hi8 := ho8.lt
  try simp only [World.size_alloc] at lo8
  obtain ⟨A8, d8, B8, e8, rfl, rfl⟩ := ho8.slices
  obtain ⟨hc1x0, gc1x0⟩ := k1''''.at_ 0 (x := .slice Aa0 x0.g.length da0) rfl
  obtain ⟨hc1x1, gc1x1⟩ := k1''''.at_ 1 (x := .slice Ba0 x0.l.length ea0) rfl
  have l1 := k1''''.lt
  go_wp2_with fail
  clear hc1x0 gc1x0 hc1x1 gc1x1 l1
  have k1''''' := k1''''.alloc (.cells #[.slice A8 x0.g.length d8, .slice B8 x0.l.length e8] 28)
  clear k1''''
  have ho4''' := ho4''.below ((Below.refl _ _).alloc (Nat.le_refl _) (.cells #[.slice A8 x0.g.length d8, .slice B8 x0.l.length e8] 28))
  clear ho4''
  have ho8' := ho8.below ((Below.refl _ _).alloc (Nat.le_refl _) (.cells #[.slice A8 x0.g.length d8, .slice B8 x0.l.length e8] 28))
  clear ho8
  have hB'''''' := hB'''''.alloc hB'''''.size (.cells #[.slice A8 x0.g.length d8, .slice B8 x0.l.length e8] 28)
  clear hB'''''
  have k10 := Bk.new w8 #[.slice A8 x0.g.length d8, .slice B8 x0.l.length e8] 28
  refine (impl_HeapOk _ _ x0 _ ho8'.rd).mono ?_
  rintro e w11 ⟨rfl, hb11⟩
  have sz12 := hb11.size
  try simp only [World.size_alloc] at sz12
  have hB''''''' := hB''''''.trans (hb11.mono hB''''''.size)
  clear hB''''''
  have k1'''''' := k1'''''.below hb11 k1'''''.lt
  clear k1'''''
  have k10' := k10.below hb11 k10.lt
  clear k10
  have ho4'''' := ho4'''.below hb11
  clear ho4'''
  have ho8'' := ho8'.below hb11
  clear ho8'
  obtain ⟨hc1x0, gc1x0⟩ := k1''''''.at_ 0 (x := .slice Aa0 x0.g.length da0) rfl
  obtain ⟨hc1x1, gc1x1⟩ := k1''''''.at_ 1 (x := .slice Ba0 x0.l.length ea0) rfl
  have l1 := k1''''''.lt
  obtain ⟨hc10x0, gc10x0⟩ := k10'.at_ 0 (x := .slice A8 x0.g.length d8) rfl
  obtain ⟨hc10x1, gc10x1⟩ := k10'.at_ 1 (x := .slice B8 x0.l.length e8) rfl
  have l10 := k10'.lt
  go_wp2_with fail
  clear hc1x0 gc1x0 hc1x1 gc1x1 l1 hc10x0 gc10x0 hc10x1 gc10x1 l10
  obtain ⟨hc1x0, gc1x0⟩ := k1''''''.at_ 0 (x := .slice Aa0 x0.g.length da0) rfl
  obtain ⟨hc1x1, gc1x1⟩ := k1''''''.at_ 1 (x := .slice Ba0 x0.l.length ea0) rfl
  have l1 := k1''''''.lt
  obtain ⟨hc10x0, gc10x0⟩ := k10'.at_ 0 (x := .slice A8 x0.g.length d8) rfl
  obtain ⟨hc10x1, gc10x1⟩ := k10'.at_ 1 (x := .slice B8 x0.l.length e8) rfl
  have l10 := k10'.lt
  have HS14 : Hid (∀ W : World, Below w11.heap.size w11 W → Below w11.heap.size w11 W ∧ W.cell? ⟨w8.heap.size, 0, none⟩ = some (.slice A8 x0.g.length d8) ∧ W.cell? ⟨w8.heap.size, 1, none⟩ = some (.slice B8 x0.l.length e8) ∧ W.cell? ⟨w.heap.size, 0, none⟩ = some (.slice Aa0 x0.g.length da0) ∧ W.cell? ⟨w.heap.size, 1, none⟩ = some (.slice Ba0 x0.l.length ea0)) := Lib.hid fun W hW => ⟨hW, (hW.cell (p := ⟨w8.heap.size, 0, none⟩) k10'.lt).trans hc10x0, (hW.cell (p := ⟨w8.heap.size, 1, none⟩) k10'.lt).trans hc10x1, (hW.cell (p := ⟨w.heap.size, 0, none⟩) k1''''''.lt).trans hc1x0, (hW.cell (p := ⟨w.heap.size, 1, none⟩) k1''''''.lt).trans hc1x1⟩
  have HhB_______ := Lib.hid hB'''''''
  have Hho4____ := Lib.hid ho4''''
  have Hho8__ := Lib.hid ho8''
  go_region_held3 (fun W => Below w11.heap.size w11 W ∧ W.cell? ⟨w8.heap.size, 0, none⟩ = some (.slice A8 x0.g.length d8) ∧ W.cell? ⟨w8.heap.size, 1, none⟩ = some (.slice B8 x0.l.length e8) ∧ W.cell? ⟨w.heap.size, 0, none⟩ = some (.slice Aa0 x0.g.length da0) ∧ W.cell? ⟨w.heap.size, 1, none⟩ = some (.slice Ba0 x0.l.length ea0)) (first | (exact HS14.out _ (Below.refl _ _).drew) | (exact HS14.out _ (by assumption)))
    (first
      | (go_at_call 11; have hS := ‹Below w11.heap.size w11 _ ∧ _›.1; refine (toHeap _ _ x0 _ (HAaH.out.below (HhB_______.out.trans (hS.mono HhB_______.out.size))) (by omega)).mono ?_; rintro e wa13 ⟨vv0, vv1, bsw, rfl, how, low, hbw13⟩; have HO13 := Lib.hid how; clear how low; have hS14x0 := hS.trans (hbw13.mono hS.size); clear hS)
      | (go_at_call 13; have hS := ‹Below w11.heap.size w11 _ ∧ _›.1; refine (eqHeap _ _ _ _ (x0) (x0) _ (Hho8__.out.below hS).rd HO13.out.rd).mono ?_; rintro e w13 ⟨rfl, hbe13⟩; have hS14x1 := hS.trans (hbe13.mono hS.size); clear hS))
  have hS14 := ‹Below w11.heap.size w11 _ ∧ _›.1
  clear HS14 HhB_______ Hho4____ Hho8__
  clear hc1x0 gc1x0 hc1x1 gc1x1 l1 hc10x0 gc10x0 hc10x1 gc10x1 l10
  have sz15 := hS14.size
  try simp only [World.size_alloc] at sz15
  have hB'''''''' := hB'''''''.trans (hS14.mono hB'''''''.size)
  clear hB'''''''
  have k1''''''' := k1''''''.below hS14 k1''''''.lt
  clear k1''''''
  have k10'' := k10'.below hS14 k10'.lt
  clear k10'
  have ho4''''' := ho4''''.below hS14
  clear ho4''''
  have ho8''' := ho8''.below hS14
  clear ho8''
  clear hS14
  clear HO13
  obtain ⟨hc1x0, gc1x0⟩ := k1'''''''.at_ 0 (x := .slice Aa0 x0.g.length da0) rfl
  obtain ⟨hc1x1, gc1x1⟩ := k1'''''''.at_ 1 (x := .slice Ba0 x0.l.length ea0) rfl
  have l1 := k1'''''''.lt
  obtain ⟨hc10x0, gc10x0⟩ := k10''.at_ 0 (x := .slice A8 x0.g.length d8) rfl
  obtain ⟨hc10x1, gc10x1⟩ := k10''.at_ 1 (x := .slice B8 x0.l.length e8) rfl
  have l10 := k10''.lt
  go_wp2_with fail
  go_ret
  exact ⟨rfl, hB''''''''⟩
set_option maxRecDepth 100000 in
theorem lift_HeapOk (os : Os) (started : os.Started) (H : Type) (enc : TypeId × Value → H) :
    ReturnsInHanded {} Try.checked os 3 .any (Rows.fnExactHeapOkSpec.pre6 enc Try.prog Try.f3 Rows.fnExactHeapOkRow.domain false) (Rows.fnExactHeapOkSpec.post enc Try.prog Try.f3 false true false false) := by
  refine returnsInHanded_of_change (C := Try.checked) (by kernel_rfl) started (by kernel_rfl) Try.func3
    (ChangeSpec.witness6 (enc := enc) (C := Try.checked) false ⟨#[], #[.agg #[.slice none 0 0, .slice none 0 0]], []⟩ 8 (by kernel_rfl) (by kernel_rfl) (by kernel_rfl) (by kernel_rfl)) ?_
  intro W base args ds gs before hval0 hW hcnd _
  have hval : ∀ (j : Nat) t v, Try.f3.params[j]? = some t → args[j]? = some v → Value.okWide Try.prog W .any base t v := hval0
  have hW' := hW
  obtain ⟨p, q, hA0, hV, rfl, hfz, hnd⟩ := hW
  have hA : DataW.TrodAll enc Try.prog W 0 (fun _ => true) true Try.f3.params.toList args.toList ds p := hA0
  rw [Try.params3] at hA hval
  obtain ⟨v0, vs0, d0, ds0, p0, q0, hargs, rfl, rfl, h0, r0⟩ := trodAll_cons hA
  obtain ⟨rfl, rfl, rfl⟩ := trodAll_nil r0
  obtain rfl : args = #[v0] := by cases args; simp_all
  obtain ⟨rfl, rfl⟩ := trodVars_none hV
  obtain ⟨c0, u0, x0, rfl, hR0, hI0⟩ := read_heap Try.underlying25 ⟨rfl, rfl⟩ (by decide +kernel) ⟨by kernel_rfl, by kernel_rfl⟩ Try.underlying22 Try.underlying3 (by kernel_rfl) Try.underlying23 Try.underlying4 (by kernel_rfl) (hval 0 _ v0 rfl rfl) h0
  refine (walk_HeapOk _ _ x0 W hR0).mono fun e W' ⟨he, hb⟩ => ?_
  subst he
  exact ⟨_, rfl, post_law (by kernel_rfl) rfl rfl (by kernel_rfl) Try.underlying4 (of_decide_eq_true (by kernel_rfl)) hW' hb⟩
theorem FnExactHeapOk_holds : Rows.FnExactHeapOkSaid :=
  OpenClaim.holds_of_wide 3 Try.f3 rfl rfl rfl rfl rfl rfl rfl ⟨rfl, rfl, rfl, rfl, rfl⟩ rfl rfl rfl rfl rfl (by kernel_rfl) Try.func3 (by kernel_rfl)
    (of_decide_eq_true (by kernel_rfl)) (by unfold Func.isWrapper; first | (rw [if_pos (by decide +kernel)]; kernel_rfl) | (rw [if_neg (by decide +kernel)]; exact ⟨rfl, rfl⟩))
    (fun os started H enc _ => lift_HeapOk os started H enc)
#print axioms FnExactHeapOk_holds
end Go.Proofs.Ytpenneklpolhgaa
