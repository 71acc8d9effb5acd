/- FnExactNewHeap answers true at every input: NewHeap answers as its model does, leaves its arguments alone and owns its answer. Conditions: none. -/
import Derived.Test.YtpenneklpolhgaaLaw
import Derived.Test.YtpenneklpolhgaaLaw8
import Derived.Test.YtpenneklpolhgaaMH
import Derived.Test.YtpenneklpolhgaaH2
import Derived.Test.YtpenneklpolhgaaH9
import Derived.Deep.RegionHeld3
namespace Go.Proofs.Ytpenneklpolhgaa
set_option maxRecDepth 20000
set_option linter.unusedSimpArgs false
set_option linter.unusedVariables false
open Go.ChangeShapes Go.WideShapes Go.ChangeAt Go.RowKit
set_option linter.unusedVariables false
set_option maxHeartbeats 4000000 in
theorem walk_NewHeap (a0 : Int) (w : World) (hw0 : (Lit.int .i64 a0).wf = true) :
    Calls Try.prog 4 #[.int .i64 a0] w fun e w' => e = .returned (.bool true) ∧ Below w.heap.size w w' := by
  have hqt : totHp (newHp a0) ≤ 48 := by have := newHp_len a0; unfold totHp; omega
  have hB := Below.refl w.heap.size w
  go_enter Try.func4, Try.ntmps4
  go_wp2_with fail
  refine (spec_NewHeap a0 _).mono ?_
  rintro e w1 ⟨v2x0, v2x1, bs2, rfl, ho2, lo2, hb2⟩
  have sz3 := hb2.size
  try simp only [World.size_alloc] at sz3
  have hB' := hB.trans (hb2.mono hB.size)
  clear hB
  have hi2 := ho2.lt
  try simp only [World.size_alloc] at lo2
  obtain ⟨A2, d2, B2, e2, rfl, rfl⟩ := ho2.slices
  go_wp2_with fail
  have ho2' := ho2.below ((Below.refl _ _).alloc (Nat.le_refl _) (.cells #[.slice A2 (newHp a0).g.length d2, .slice B2 (newHp a0).l.length e2] 28))
  clear ho2
  have hB'' := hB'.alloc hB'.size (.cells #[.slice A2 (newHp a0).g.length d2, .slice B2 (newHp a0).l.length e2] 28)
  clear hB'
  have k4 := Bk.new w1 #[.slice A2 (newHp a0).g.length d2, .slice B2 (newHp a0).l.length e2] 28
  refine (impl_NewHeap a0 _ hw0).mono ?_
  rintro e w5 ⟨v6x0, v6x1, bs6, rfl, ho6, lo6, hb6⟩
  have sz7 := hb6.size
  try simp only [World.size_alloc] at sz7
  have hB''' := hB''.trans (hb6.mono hB''.size)
  clear hB''
  have k4' := k4.below hb6 k4.lt
  clear k4
  have ho2'' := ho2'.below hb6
  clear ho2'
  have hi6 := ho6.lt
  try simp only [World.size_alloc] at lo6
  obtain ⟨A6, d6, B6, e6, rfl, rfl⟩ := ho6.slices
  obtain ⟨hc4x0, gc4x0⟩ := k4'.at_ 0 (x := .slice A2 (newHp a0).g.length d2) rfl
  obtain ⟨hc4x1, gc4x1⟩ := k4'.at_ 1 (x := .slice B2 (newHp a0).l.length e2) rfl
  have l4 := k4'.lt
  go_wp2_with fail
  clear hc4x0 gc4x0 hc4x1 gc4x1 l4
  have k4'' := k4'.alloc (.cells #[.slice A6 (newHp a0).g.length d6, .slice B6 (newHp a0).l.length e6] 28)
  clear k4'
  have ho2''' := ho2''.below ((Below.refl _ _).alloc (Nat.le_refl _) (.cells #[.slice A6 (newHp a0).g.length d6, .slice B6 (newHp a0).l.length e6] 28))
  clear ho2''
  have ho6' := ho6.below ((Below.refl _ _).alloc (Nat.le_refl _) (.cells #[.slice A6 (newHp a0).g.length d6, .slice B6 (newHp a0).l.length e6] 28))
  clear ho6
  have hB'''' := hB'''.alloc hB'''.size (.cells #[.slice A6 (newHp a0).g.length d6, .slice B6 (newHp a0).l.length e6] 28)
  clear hB'''
  have k8 := Bk.new w5 #[.slice A6 (newHp a0).g.length d6, .slice B6 (newHp a0).l.length e6] 28
  refine (eqHeap _ _ _ _ ((newHp a0)) ((newHp a0)) _ ho6'.rd ho2'''.rd).mono ?_
  rintro e w9 ⟨rfl, hb9⟩
  rw [decide_eq_true rfl]
  have sz10 := hb9.size
  try simp only [World.size_alloc] at sz10
  have hB''''' := hB''''.trans (hb9.mono hB''''.size)
  clear hB''''
  have k4''' := k4''.below hb9 k4''.lt
  clear k4''
  have k8' := k8.below hb9 k8.lt
  clear k8
  have ho2'''' := ho2'''.below hb9
  clear ho2'''
  have ho6'' := ho6'.below hb9
  clear ho6'
  obtain ⟨hc4x0, gc4x0⟩ := k4'''.at_ 0 (x := .slice A2 (newHp a0).g.length d2) rfl
  obtain ⟨hc4x1, gc4x1⟩ := k4'''.at_ 1 (x := .slice B2 (newHp a0).l.length e2) rfl
  have l4 := k4'''.lt
  obtain ⟨hc8x0, gc8x0⟩ := k8'.at_ 0 (x := .slice A6 (newHp a0).g.length d6) rfl
  obtain ⟨hc8x1, gc8x1⟩ := k8'.at_ 1 (x := .slice B6 (newHp a0).l.length e6) rfl
  have l8 := k8'.lt
  go_wp2_with fail
  refine (markHeap _ _ (newHp a0) bs6 (1) _ ho6'' (by omega) (by omega) (by omega)).mono ?_
  rintro e w11 ⟨rfl, hq11, hon11⟩
  clear hc4x0 gc4x0 hc4x1 gc4x1 l4 hc8x0 gc8x0 hc8x1 gc8x1 l8
  have sz12 := hon11.size
  try simp only [World.size_alloc] at sz12
  have hB'''''' := hB'''''.trans (hon11.below hB'''''.size (fun b hb => by have := lo6 b hb; omega))
  clear hB'''''
  have k4'''' := k4'''.only hon11 (fun hm => by have := lo6 _ hm; have := hi6 _ hm; omega)
  clear k4'''
  have k8'' := k8'.only hon11 (fun hm => by have := lo6 _ hm; have := hi6 _ hm; omega)
  clear k8'
  have ho2''''' := ho2''''.only hon11 (fun b hb hm => by have := lo6 b hm; have := hi6 b hm; have := lo2 b hb; have := hi2 b hb; omega)
  clear ho2''''
  obtain ⟨hc4x0, gc4x0⟩ := k4''''.at_ 0 (x := .slice A2 (newHp a0).g.length d2) rfl
  obtain ⟨hc4x1, gc4x1⟩ := k4''''.at_ 1 (x := .slice B2 (newHp a0).l.length e2) rfl
  have l4 := k4''''.lt
  obtain ⟨hc8x0, gc8x0⟩ := k8''.at_ 0 (x := .slice A6 (newHp a0).g.length d6) rfl
  obtain ⟨hc8x1, gc8x1⟩ := k8''.at_ 1 (x := .slice B6 (newHp a0).l.length e6) rfl
  have l8 := k8''.lt
  go_wp2_with fail
  refine (heldHeap _ _ (newHp a0) (1) _ hq11.rd (by omega) (by omega) (by omega)).mono ?_
  rintro e w13 ⟨rfl, hb13⟩
  clear hc4x0 gc4x0 hc4x1 gc4x1 l4 hc8x0 gc8x0 hc8x1 gc8x1 l8
  have sz14 := hb13.size
  try simp only [World.size_alloc] at sz14
  have hB''''''' := hB''''''.trans (hb13.mono hB''''''.size)
  clear hB''''''
  have k4''''' := k4''''.below hb13 k4''''.lt
  clear k4''''
  have k8''' := k8''.below hb13 k8''.lt
  clear k8''
  have ho2'''''' := ho2'''''.below hb13
  clear ho2'''''
  have hq11' := hq11.below hb13
  clear hq11
  obtain ⟨hc4x0, gc4x0⟩ := k4'''''.at_ 0 (x := .slice A2 (newHp a0).g.length d2) rfl
  obtain ⟨hc4x1, gc4x1⟩ := k4'''''.at_ 1 (x := .slice B2 (newHp a0).l.length e2) rfl
  have l4 := k4'''''.lt
  obtain ⟨hc8x0, gc8x0⟩ := k8'''.at_ 0 (x := .slice A6 (newHp a0).g.length d6) rfl
  obtain ⟨hc8x1, gc8x1⟩ := k8'''.at_ 1 (x := .slice B6 (newHp a0).l.length e6) rfl
  have l8 := k8'''.lt
  go_wp2_with fail
  refine (impl_NewHeap a0 _ hw0).mono ?_
  rintro e w15 ⟨v16x0, v16x1, bs16, rfl, ho16, lo16, hb16⟩
  clear hc4x0 gc4x0 hc4x1 gc4x1 l4 hc8x0 gc8x0 hc8x1 gc8x1 l8
  have sz17 := hb16.size
  try simp only [World.size_alloc] at sz17
  have hB'''''''' := hB'''''''.trans (hb16.mono hB'''''''.size)
  clear hB'''''''
  have k4'''''' := k4'''''.below hb16 k4'''''.lt
  clear k4'''''
  have k8'''' := k8'''.below hb16 k8'''.lt
  clear k8'''
  have ho2''''''' := ho2''''''.below hb16
  clear ho2''''''
  have hq11'' := hq11'.below hb16
  clear hq11'
  have hi16 := ho16.lt
  try simp only [World.size_alloc] at lo16
  obtain ⟨A16, d16, B16, e16, rfl, rfl⟩ := ho16.slices
  obtain ⟨hc4x0, gc4x0⟩ := k4''''''.at_ 0 (x := .slice A2 (newHp a0).g.length d2) rfl
  obtain ⟨hc4x1, gc4x1⟩ := k4''''''.at_ 1 (x := .slice B2 (newHp a0).l.length e2) rfl
  have l4 := k4''''''.lt
  obtain ⟨hc8x0, gc8x0⟩ := k8''''.at_ 0 (x := .slice A6 (newHp a0).g.length d6) rfl
  obtain ⟨hc8x1, gc8x1⟩ := k8''''.at_ 1 (x := .slice B6 (newHp a0).l.length e6) rfl
  have l8 := k8''''.lt
  go_wp2_with fail
  clear hc4x0 gc4x0 hc4x1 gc4x1 l4 hc8x0 gc8x0 hc8x1 gc8x1 l8
  have k4''''''' := k4''''''.alloc (.cells #[.slice A16 (newHp a0).g.length d16, .slice B16 (newHp a0).l.length e16] 28)
  clear k4''''''
  have k8''''' := k8''''.alloc (.cells #[.slice A16 (newHp a0).g.length d16, .slice B16 (newHp a0).l.length e16] 28)
  clear k8''''
  have ho2'''''''' := ho2'''''''.below ((Below.refl _ _).alloc (Nat.le_refl _) (.cells #[.slice A16 (newHp a0).g.length d16, .slice B16 (newHp a0).l.length e16] 28))
  clear ho2'''''''
  have hq11''' := hq11''.below ((Below.refl _ _).alloc (Nat.le_refl _) (.cells #[.slice A16 (newHp a0).g.length d16, .slice B16 (newHp a0).l.length e16] 28))
  clear hq11''
  have ho16' := ho16.below ((Below.refl _ _).alloc (Nat.le_refl _) (.cells #[.slice A16 (newHp a0).g.length d16, .slice B16 (newHp a0).l.length e16] 28))
  clear ho16
  have hB''''''''' := hB''''''''.alloc hB''''''''.size (.cells #[.slice A16 (newHp a0).g.length d16, .slice B16 (newHp a0).l.length e16] 28)
  clear hB''''''''
  have k18 := Bk.new w15 #[.slice A16 (newHp a0).g.length d16, .slice B16 (newHp a0).l.length e16] 28
  refine (eqHeap _ _ _ _ ((newHp a0)) ((newHp a0)) _ ho16'.rd ho2''''''''.rd).mono ?_
  rintro e w19 ⟨rfl, hb19⟩
  rw [decide_eq_true rfl]
  have sz20 := hb19.size
  try simp only [World.size_alloc] at sz20
  have hB'''''''''' := hB'''''''''.trans (hb19.mono hB'''''''''.size)
  clear hB'''''''''
  have k4'''''''' := k4'''''''.below hb19 k4'''''''.lt
  clear k4'''''''
  have k8'''''' := k8'''''.below hb19 k8'''''.lt
  clear k8'''''
  have k18' := k18.below hb19 k18.lt
  clear k18
  have ho2''''''''' := ho2''''''''.below hb19
  clear ho2''''''''
  have hq11'''' := hq11'''.below hb19
  clear hq11'''
  have ho16'' := ho16'.below hb19
  clear ho16'
  obtain ⟨hc4x0, gc4x0⟩ := k4''''''''.at_ 0 (x := .slice A2 (newHp a0).g.length d2) rfl
  obtain ⟨hc4x1, gc4x1⟩ := k4''''''''.at_ 1 (x := .slice B2 (newHp a0).l.length e2) rfl
  have l4 := k4''''''''.lt
  obtain ⟨hc8x0, gc8x0⟩ := k8''''''.at_ 0 (x := .slice A6 (newHp a0).g.length d6) rfl
  obtain ⟨hc8x1, gc8x1⟩ := k8''''''.at_ 1 (x := .slice B6 (newHp a0).l.length e6) rfl
  have l8 := k8''''''.lt
  obtain ⟨hc18x0, gc18x0⟩ := k18'.at_ 0 (x := .slice A16 (newHp a0).g.length d16) rfl
  obtain ⟨hc18x1, gc18x1⟩ := k18'.at_ 1 (x := .slice B16 (newHp a0).l.length e16) rfl
  have l18 := k18'.lt
  go_wp2_with fail
  refine (heldHeap _ _ (newHp a0) (1) _ hq11''''.rd (by omega) (by omega) (by omega)).mono ?_
  rintro e w21 ⟨rfl, hb21⟩
  clear hc4x0 gc4x0 hc4x1 gc4x1 l4 hc8x0 gc8x0 hc8x1 gc8x1 l8 hc18x0 gc18x0 hc18x1 gc18x1 l18
  have sz22 := hb21.size
  try simp only [World.size_alloc] at sz22
  have hB''''''''''' := hB''''''''''.trans (hb21.mono hB''''''''''.size)
  clear hB''''''''''
  have k4''''''''' := k4''''''''.below hb21 k4''''''''.lt
  clear k4''''''''
  have k8''''''' := k8''''''.below hb21 k8''''''.lt
  clear k8''''''
  have k18'' := k18'.below hb21 k18'.lt
  clear k18'
  have ho2'''''''''' := ho2'''''''''.below hb21
  clear ho2'''''''''
  have hq11''''' := hq11''''.below hb21
  clear hq11''''
  have ho16''' := ho16''.below hb21
  clear ho16''
  obtain ⟨hc4x0, gc4x0⟩ := k4'''''''''.at_ 0 (x := .slice A2 (newHp a0).g.length d2) rfl
  obtain ⟨hc4x1, gc4x1⟩ := k4'''''''''.at_ 1 (x := .slice B2 (newHp a0).l.length e2) rfl
  have l4 := k4'''''''''.lt
  obtain ⟨hc8x0, gc8x0⟩ := k8'''''''.at_ 0 (x := .slice A6 (newHp a0).g.length d6) rfl
  obtain ⟨hc8x1, gc8x1⟩ := k8'''''''.at_ 1 (x := .slice B6 (newHp a0).l.length e6) rfl
  have l8 := k8'''''''.lt
  obtain ⟨hc18x0, gc18x0⟩ := k18''.at_ 0 (x := .slice A16 (newHp a0).g.length d16) rfl
  obtain ⟨hc18x1, gc18x1⟩ := k18''.at_ 1 (x := .slice B16 (newHp a0).l.length e16) rfl
  have l18 := k18''.lt
  go_wp2_with fail
  go_ret
  exact ⟨rfl, hB'''''''''''⟩
set_option maxRecDepth 100000 in
theorem lift_NewHeap (os : Os) (started : os.Started) (H : Type) (enc : TypeId × Value → H) :
    ReturnsInHanded {} Try.checked os 4 .any (Rows.fnExactNewHeapSpec.pre6 enc Try.prog Try.f4 Rows.fnExactNewHeapRow.domain false) (Rows.fnExactNewHeapSpec.post enc Try.prog Try.f4 false true false false) := by
  refine returnsInHanded_of_change (C := Try.checked) (by kernel_rfl) started (by kernel_rfl) Try.func4
    (ChangeSpec.witness6 (enc := enc) (C := Try.checked) false ⟨#[], #[.int .i64 0], []⟩ 8 (by kernel_rfl) (by kernel_rfl) (by kernel_rfl) (by kernel_rfl)) ?_
  intro W base args ds gs before hval0 hW hcnd _
  have hval : ∀ (j : Nat) t v, Try.f4.params[j]? = some t → args[j]? = some v → Value.okWide Try.prog W .any base t v := hval0
  have hW' := hW
  obtain ⟨p, q, hA0, hV, rfl, hfz, hnd⟩ := hW
  have hA : DataW.TrodAll enc Try.prog W 0 (fun _ => true) true Try.f4.params.toList args.toList ds p := hA0
  rw [Try.params4] at hA hval
  obtain ⟨v0, vs0, d0, ds0, p0, q0, hargs, rfl, rfl, h0, r0⟩ := trodAll_cons hA
  obtain ⟨rfl, rfl, rfl⟩ := trodAll_nil r0
  obtain rfl : args = #[v0] := by cases args; simp_all
  obtain ⟨rfl, rfl⟩ := trodVars_none hV
  obtain ⟨a0, rfl, rfl, rfl, w0⟩ := open_int Try.underlying3 (hval 0 _ v0 rfl rfl) h0
  refine (walk_NewHeap a0 W w0).mono fun e W' ⟨he, hb⟩ => ?_
  subst he
  exact ⟨_, rfl, post_law (by kernel_rfl) rfl rfl (by kernel_rfl) Try.underlying4 (of_decide_eq_true (by kernel_rfl)) hW' hb⟩
theorem FnExactNewHeap_holds : Rows.FnExactNewHeapSaid :=
  OpenClaim.holds_of_wide 4 Try.f4 rfl rfl rfl rfl rfl rfl rfl ⟨rfl, rfl, rfl, rfl, rfl⟩ rfl rfl rfl rfl rfl (by kernel_rfl) Try.func4 (by kernel_rfl)
    (of_decide_eq_true (by kernel_rfl)) (by unfold Func.isWrapper; first | (rw [if_pos (by decide +kernel)]; kernel_rfl) | (rw [if_neg (by decide +kernel)]; exact ⟨rfl, rfl⟩))
    (fun os started H enc _ => lift_NewHeap os started H enc)
#print axioms FnExactNewHeap_holds
end Go.Proofs.Ytpenneklpolhgaa
