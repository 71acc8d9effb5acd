/- FnExactReadThrough answers true at every input: ReadThrough answers as its model does, leaves its arguments alone and owns its answer. Conditions: none. -/
import Derived.Test.YtiflooopfpcelabLaw
import Derived.Test.YtiflooopfpcelabLaw3
import Derived.Test.YtiflooopfpcelabB8
import Derived.Deep.RegionHeld3
namespace Go.Proofs.Ytiflooopfpcelab
set_option maxRecDepth 20000
set_option linter.unusedSimpArgs false
set_option linter.unusedVariables false
open Go.ChangeShapes Go.WideShapes Go.ChangeAt Go.RowKit
set_option linter.unusedVariables false
set_option maxHeartbeats 4000000 in
theorem walk_ReadThrough (v0 : Value) (xs0 : List P2) (v1 : Value) (xs1 : List Int) (a2 : Int) (w : World) (hA0 : RdA w v0 2 xs0.length (flc2 xs0)) (hA1 : RdA w v1 1 xs1.length (ints xs1)) (hw2 : (Lit.int .i64 a2).wf = true) :
    Calls Try.prog 13 #[v0, .agg #[v1], .int .i64 a2] w fun e w' => e = .returned (.bool true) ∧ Below w.heap.size w w' := by
  obtain ⟨Aa0, da0, rfl, -, -, -, -⟩ := id hA0
  have HAaB := Lib.hid hA0
  clear hA0
  obtain ⟨Aa1, da1, rfl, -, -, -, -⟩ := id hA1
  have HAaM := Lib.hid hA1
  clear hA1
  have hB := Below.refl w.heap.size w
  go_enter Try.func13, Try.ntmps13
  go_wp2_with fail
  have hB' := hB.alloc hB.size (.cells #[.slice Aa1 xs1.length da1] 34)
  clear hB
  have k1 := Bk.new w #[.slice Aa1 xs1.length da1] 34
  refine (toB (szSlotS _ _ _ (1048576) _ (HAaB.out.below hB') (by omega) (by omega))).mono ?_
  rintro e w2 ⟨rfl, hb2⟩
  have sz3 := hb2.size
  try simp only [World.size_alloc] at sz3
  have hB'' := hB'.trans (hb2.mono hB'.size)
  clear hB'
  have k1' := k1.below hb2 k1.lt
  clear k1
  by_cases hn2 : (1048576 : Int) - xs0.length < 0
  · rw [show szF xs0.length (1048576) = -1 by unfold szF; rw [if_pos hn2]]
    go_wp2_with fail
    go_ret
    exact ⟨rfl, hB''⟩
  rw [show szF xs0.length (1048576) = 1048576 - xs0.length by unfold szF; rw [if_neg hn2]]
  obtain ⟨hc1x0, gc1x0⟩ := k1'.at_ 0 (x := .slice Aa1 xs1.length da1) rfl
  have l1 := k1'.lt
  go_wp2_with fail
  refine (szMem _ _ _ (1048576 - xs0.length) _ (HAaM.out.below hB'') (by omega) (by omega)).mono ?_
  rintro e w4 ⟨rfl, hb4⟩
  clear hc1x0 gc1x0 l1
  have sz5 := hb4.size
  try simp only [World.size_alloc] at sz5
  have hB''' := hB''.trans (hb4.mono hB''.size)
  clear hB''
  have k1'' := k1'.below hb4 k1'.lt
  clear k1'
  by_cases hn4 : (1048576 - xs0.length : Int) - xs1.length < 0
  · rw [show szF xs1.length (1048576 - xs0.length) = -1 by unfold szF; rw [if_pos hn4]]
    go_wp2_with fail
    go_ret
    exact ⟨rfl, hB'''⟩
  rw [show szF xs1.length (1048576 - xs0.length) = 1048576 - xs0.length - xs1.length by unfold szF; rw [if_neg hn4]]
  obtain ⟨hc1x0, gc1x0⟩ := k1''.at_ 0 (x := .slice Aa1 xs1.length da1) rfl
  have l1 := k1''.lt
  go_wp2_with fail
  clear hc1x0 gc1x0 l1
  obtain ⟨hc1x0, gc1x0⟩ := k1''.at_ 0 (x := .slice Aa1 xs1.length da1) rfl
  have l1 := k1''.lt
  have HS9 : Hid (∀ W : World, Below w4.heap.size w4 W → Below w4.heap.size w4 W ∧ W.cell? ⟨w.heap.size, 0, none⟩ = some (.slice Aa1 xs1.length da1)) := Lib.hid fun W hW => ⟨hW, (hW.cell (p := ⟨w.heap.size, 0, none⟩) k1''.lt).trans hc1x0⟩
  have HhB___ := Lib.hid hB'''
  go_region_held3 (fun W => Below w4.heap.size w4 W ∧ W.cell? ⟨w.heap.size, 0, none⟩ = some (.slice Aa1 xs1.length da1)) (first | (exact HS9.out _ (Below.refl _ _).drew) | (exact HS9.out _ (by assumption)))
    (first
      | (go_at_call_of 43 (Value.slice Aa0 xs0.length da0 : Value); have hS := ‹Below w4.heap.size w4 _ ∧ _›.1; refine (toSlotS _ xs0 _ (HAaB.out.below (HhB___.out.trans (hS.mono HhB___.out.size))) (by omega)).mono ?_; rintro e w6 ⟨v6x0, bs6, rfl, ho6, lo6, hb6⟩; have hS9x0 := hS.trans (hb6.mono hS.size); clear hS)
      | (go_at_call_of 24 (Value.agg #[Value.slice Aa1 xs1.length da1] : Value); have hS := ‹Below w4.heap.size w4 _ ∧ _›.1; refine (toMem _ xs1 _ (HAaM.out.below (HhB___.out.trans (hS.mono HhB___.out.size))) (by omega)).mono ?_; rintro e w7 ⟨v7x0, bs7, rfl, ho7, lo7, hb7⟩; have ho6 := ho6.below hb7; have hS9x1 := hS.trans (hb7.mono hS.size); clear hS)
      | (go_at_call 51; have hS := ‹Below w4.heap.size w4 _ ∧ _›.1; refine (spec_ReadThrough _ _ xs0 xs1 a2 _ ho6.rd ho7.rd hw2).mono ?_; rintro e w8 ⟨rfl, hb8⟩; have ho6 := ho6.below hb8; have ho7 := ho7.below hb8; have hS9x2 := hS.trans (hb8.mono hS.size); clear hS))
  have hS9 := ‹Below w4.heap.size w4 _ ∧ _›.1
  clear HS9 HhB___
  clear hc1x0 gc1x0 l1
  have sz10 := hS9.size
  try simp only [World.size_alloc] at sz10
  have hB'''' := hB'''.trans (hS9.mono hB'''.size)
  clear hB'''
  have k1''' := k1''.below hS9 k1''.lt
  clear k1''
  clear hS9
  clear ho6
  clear ho7
  obtain ⟨hc1x0, gc1x0⟩ := k1'''.at_ 0 (x := .slice Aa1 xs1.length da1) rfl
  have l1 := k1'''.lt
  go_wp2_with fail
  refine (toSlotS _ xs0 _ (HAaB.out.below hB'''') (by omega)).mono ?_
  rintro e w11 ⟨v11x0, bs11, rfl, ho11, lo11, hb11⟩
  clear hc1x0 gc1x0 l1
  have sz12 := hb11.size
  try simp only [World.size_alloc] at sz12
  have hB''''' := hB''''.trans (hb11.mono hB''''.size)
  clear hB''''
  have k1'''' := k1'''.below hb11 k1'''.lt
  clear k1'''
  have hi11 := ho11.lt
  try simp only [World.size_alloc] at lo11
  obtain ⟨A11, d11, rfl, -, -⟩ := ho11.slice
  obtain ⟨hc1x0, gc1x0⟩ := k1''''.at_ 0 (x := .slice Aa1 xs1.length da1) rfl
  have l1 := k1''''.lt
  go_wp2_with fail
  refine (toMem _ xs1 _ (HAaM.out.below hB''''') (by omega)).mono ?_
  rintro e w13 ⟨v13x0, bs13, rfl, ho13, lo13, hb13⟩
  clear hc1x0 gc1x0 l1
  have sz14 := hb13.size
  try simp only [World.size_alloc] at sz14
  have hB'''''' := hB'''''.trans (hb13.mono hB'''''.size)
  clear hB'''''
  have k1''''' := k1''''.below hb13 k1''''.lt
  clear k1''''
  have ho11' := ho11.below hb13
  clear ho11
  have hi13 := ho13.lt
  try simp only [World.size_alloc] at lo13
  obtain ⟨A13, d13, rfl, -, -⟩ := ho13.slice
  obtain ⟨hc1x0, gc1x0⟩ := k1'''''.at_ 0 (x := .slice Aa1 xs1.length da1) rfl
  have l1 := k1'''''.lt
  go_wp2_with fail
  clear hc1x0 gc1x0 l1
  have k1'''''' := k1'''''.alloc (.cells #[.slice A13 xs1.length d13] 26)
  clear k1'''''
  have ho11'' := ho11'.below ((Below.refl _ _).alloc (Nat.le_refl _) (.cells #[.slice A13 xs1.length d13] 26))
  clear ho11'
  have ho13' := ho13.below ((Below.refl _ _).alloc (Nat.le_refl _) (.cells #[.slice A13 xs1.length d13] 26))
  clear ho13
  have hB''''''' := hB''''''.alloc hB''''''.size (.cells #[.slice A13 xs1.length d13] 26)
  clear hB''''''
  have k15 := Bk.new w13 #[.slice A13 xs1.length d13] 26
  refine (impl_ReadThrough _ _ xs0 xs1 a2 _ ho11''.rd ho13'.rd hw2).mono ?_
  rintro e w16 ⟨rfl, hb16⟩
  have sz17 := hb16.size
  try simp only [World.size_alloc] at sz17
  have hB'''''''' := hB'''''''.trans (hb16.mono hB'''''''.size)
  clear hB'''''''
  have k1''''''' := k1''''''.below hb16 k1''''''.lt
  clear k1''''''
  have k15' := k15.below hb16 k15.lt
  clear k15
  have ho11''' := ho11''.below hb16
  clear ho11''
  have ho13'' := ho13'.below hb16
  clear ho13'
  obtain ⟨hc1x0, gc1x0⟩ := k1'''''''.at_ 0 (x := .slice Aa1 xs1.length da1) rfl
  have l1 := k1'''''''.lt
  obtain ⟨hc15x0, gc15x0⟩ := k15'.at_ 0 (x := .slice A13 xs1.length d13) rfl
  have l15 := k15'.lt
  go_wp2_with fail
  refine (toSlotS _ xs0 _ (HAaB.out.below hB'''''''') (by omega)).mono ?_
  rintro e w18 ⟨v18x0, bs18, rfl, ho18, lo18, hb18⟩
  clear hc1x0 gc1x0 l1 hc15x0 gc15x0 l15
  have sz19 := hb18.size
  try simp only [World.size_alloc] at sz19
  have hB''''''''' := hB''''''''.trans (hb18.mono hB''''''''.size)
  clear hB''''''''
  have k1'''''''' := k1'''''''.below hb18 k1'''''''.lt
  clear k1'''''''
  have k15'' := k15'.below hb18 k15'.lt
  clear k15'
  have ho11'''' := ho11'''.below hb18
  clear ho11'''
  have ho13''' := ho13''.below hb18
  clear ho13''
  have hi18 := ho18.lt
  try simp only [World.size_alloc] at lo18
  obtain ⟨A18, d18, rfl, -, -⟩ := ho18.slice
  obtain ⟨hc1x0, gc1x0⟩ := k1''''''''.at_ 0 (x := .slice Aa1 xs1.length da1) rfl
  have l1 := k1''''''''.lt
  obtain ⟨hc15x0, gc15x0⟩ := k15''.at_ 0 (x := .slice A13 xs1.length d13) rfl
  have l15 := k15''.lt
  go_wp2_with fail
  refine (eqSlotS _ _ (xs0) (xs0) _ ho11''''.rd ho18.rd).mono ?_
  rintro e w20 ⟨rfl, hb20⟩
  rw [decide_eq_true rfl]
  clear hc1x0 gc1x0 l1 hc15x0 gc15x0 l15
  have sz21 := hb20.size
  try simp only [World.size_alloc] at sz21
  have hB'''''''''' := hB'''''''''.trans (hb20.mono hB'''''''''.size)
  clear hB'''''''''
  have k1''''''''' := k1''''''''.below hb20 k1''''''''.lt
  clear k1''''''''
  have k15''' := k15''.below hb20 k15''.lt
  clear k15''
  have ho11''''' := ho11''''.below hb20
  clear ho11''''
  have ho13'''' := ho13'''.below hb20
  clear ho13'''
  have ho18' := ho18.below hb20
  clear ho18
  obtain ⟨hc1x0, gc1x0⟩ := k1'''''''''.at_ 0 (x := .slice Aa1 xs1.length da1) rfl
  have l1 := k1'''''''''.lt
  obtain ⟨hc15x0, gc15x0⟩ := k15'''.at_ 0 (x := .slice A13 xs1.length d13) rfl
  have l15 := k15'''.lt
  go_wp2_with fail
  clear hc1x0 gc1x0 l1 hc15x0 gc15x0 l15
  obtain ⟨hc1x0, gc1x0⟩ := k1'''''''''.at_ 0 (x := .slice Aa1 xs1.length da1) rfl
  have l1 := k1'''''''''.lt
  obtain ⟨hc15x0, gc15x0⟩ := k15'''.at_ 0 (x := .slice A13 xs1.length d13) rfl
  have l15 := k15'''.lt
  have HS23 : Hid (∀ W : World, Below w20.heap.size w20 W → Below w20.heap.size w20 W ∧ W.cell? ⟨w13.heap.size, 0, none⟩ = some (.slice A13 xs1.length d13) ∧ W.cell? ⟨w.heap.size, 0, none⟩ = some (.slice Aa1 xs1.length da1)) := Lib.hid fun W hW => ⟨hW, (hW.cell (p := ⟨w13.heap.size, 0, none⟩) k15'''.lt).trans hc15x0, (hW.cell (p := ⟨w.heap.size, 0, none⟩) k1'''''''''.lt).trans hc1x0⟩
  have HhB__________ := Lib.hid hB''''''''''
  have Hho11_____ := Lib.hid ho11'''''
  have Hho13____ := Lib.hid ho13''''
  have Hho18_ := Lib.hid ho18'
  go_region_held3 (fun W => Below w20.heap.size w20 W ∧ W.cell? ⟨w13.heap.size, 0, none⟩ = some (.slice A13 xs1.length d13) ∧ W.cell? ⟨w.heap.size, 0, none⟩ = some (.slice Aa1 xs1.length da1)) (first | (exact HS23.out _ (Below.refl _ _).drew) | (exact HS23.out _ (by assumption)))
    (first
      | (go_at_call 24; have hS := ‹Below w20.heap.size w20 _ ∧ _›.1; refine (toMem _ xs1 _ (HAaM.out.below (HhB__________.out.trans (hS.mono HhB__________.out.size))) (by omega)).mono ?_; rintro e wa22 ⟨vv0, bsw, rfl, how, low, hbw22⟩; have HO22 := Lib.hid how; clear how low; have hS23x0 := hS.trans (hbw22.mono hS.size); clear hS)
      | (go_at_call 25; have hS := ‹Below w20.heap.size w20 _ ∧ _›.1; refine (eqMemB _ _ (xs1) (xs1) _ (Hho13____.out.below hS).rd HO22.out.rd).mono ?_; rintro e w22 ⟨rfl, hbe22⟩; have hS23x1 := hS.trans (hbe22.mono hS.size); clear hS))
  have hS23 := ‹Below w20.heap.size w20 _ ∧ _›.1
  clear HS23 HhB__________ Hho11_____ Hho13____ Hho18_
  clear hc1x0 gc1x0 l1 hc15x0 gc15x0 l15
  have sz24 := hS23.size
  try simp only [World.size_alloc] at sz24
  have hB''''''''''' := hB''''''''''.trans (hS23.mono hB''''''''''.size)
  clear hB''''''''''
  have k1'''''''''' := k1'''''''''.below hS23 k1'''''''''.lt
  clear k1'''''''''
  have k15'''' := k15'''.below hS23 k15'''.lt
  clear k15'''
  have ho11'''''' := ho11'''''.below hS23
  clear ho11'''''
  have ho13''''' := ho13''''.below hS23
  clear ho13''''
  have ho18'' := ho18'.below hS23
  clear ho18'
  clear hS23
  clear HO22
  obtain ⟨hc1x0, gc1x0⟩ := k1''''''''''.at_ 0 (x := .slice Aa1 xs1.length da1) rfl
  have l1 := k1''''''''''.lt
  obtain ⟨hc15x0, gc15x0⟩ := k15''''.at_ 0 (x := .slice A13 xs1.length d13) rfl
  have l15 := k15''''.lt
  go_wp2_with fail
  go_ret
  exact ⟨rfl, hB'''''''''''⟩
set_option maxRecDepth 100000 in
theorem lift_ReadThrough (os : Os) (started : os.Started) (H : Type) (enc : TypeId × Value → H) :
    ReturnsInHanded {} Try.checked os 13 .any (Rows.fnExactReadThroughSpec.pre6 enc Try.prog Try.f13 Rows.fnExactReadThroughRow.domain false) (Rows.fnExactReadThroughSpec.post enc Try.prog Try.f13 false true false false) := by
  refine returnsInHanded_of_change (C := Try.checked) (by kernel_rfl) started (by kernel_rfl) Try.func13
    (ChangeSpec.witness6 (enc := enc) (C := Try.checked) false ⟨#[], #[.slice none 0 0, .agg #[.slice none 0 0], .int .i64 0], []⟩ 8 (by kernel_rfl) (by kernel_rfl) (by kernel_rfl) (by kernel_rfl)) ?_
  intro W base args ds gs before hval0 hW hcnd _
  have hval : ∀ (j : Nat) t v, Try.f13.params[j]? = some t → args[j]? = some v → Value.okWide Try.prog W .any base t v := hval0
  have hW' := hW
  obtain ⟨p, q, hA0, hV, rfl, hfz, hnd⟩ := hW
  have hA : DataW.TrodAll enc Try.prog W 0 (fun _ => true) true Try.f13.params.toList args.toList ds p := hA0
  rw [Try.params13] at hA hval
  obtain ⟨v0, vs0, d0, ds0, p0, q0, hargs, rfl, rfl, h0, r0⟩ := trodAll_cons hA
  obtain ⟨v1, vs1, d1, ds1, p1, q1, rfl, rfl, rfl, h1, r1⟩ := trodAll_cons r0
  obtain ⟨v2, vs2, d2, ds2, p2, q2, rfl, rfl, rfl, h2, r2⟩ := trodAll_cons r1
  obtain ⟨rfl, rfl, rfl⟩ := trodAll_nil r2
  obtain rfl : args = #[v0, v1, v2] := by cases args; simp_all
  obtain ⟨rfl, rfl⟩ := trodVars_none hV
  obtain ⟨c0, l0, e0, rfl⟩ := okWide_slice Try.underlying63 (hval 0 _ v0 rfl rfl)
  obtain ⟨fuel0, hf0⟩ := h0
  obtain ⟨xs0, hR0, hI0⟩ := read_p2s Try.underlying63 Try.underlying118 (by kernel_rfl) ⟨rfl, rfl⟩ (by decide +kernel) ⟨Try.underlying3, Try.underlying3⟩ (by simpa [Value.cells] using hf0)
  obtain ⟨c1, xs1, rfl, hR1, _⟩ := read_mem Try.underlying34 ⟨rfl, rfl⟩ (by kernel_rfl) (by kernel_rfl) Try.underlying24 Try.underlying3 (by kernel_rfl) (hval 1 _ v1 rfl rfl) h1
  obtain ⟨a2, rfl, rfl, rfl, w2⟩ := open_int Try.underlying3 (hval 2 _ v2 rfl rfl) h2
  refine (walk_ReadThrough _ xs0 c1 xs1 a2 W hR0 hR1 w2).mono fun e W' ⟨he, hb⟩ => ?_
  subst he
  exact ⟨_, rfl, post_law (by kernel_rfl) rfl rfl (by kernel_rfl) Try.underlying4 (of_decide_eq_true (by kernel_rfl)) hW' hb⟩
theorem FnExactReadThrough_holds : Rows.FnExactReadThroughSaid :=
  OpenClaim.holds_of_wide 13 Try.f13 rfl rfl rfl rfl rfl rfl rfl ⟨rfl, rfl, rfl, rfl, rfl⟩ rfl rfl rfl rfl rfl (by kernel_rfl) Try.func13 (by kernel_rfl)
    (of_decide_eq_true (by kernel_rfl)) (by unfold Func.isWrapper; first | (rw [if_pos (by decide +kernel)]; kernel_rfl) | (rw [if_neg (by decide +kernel)]; exact ⟨rfl, rfl⟩))
    (fun os started H enc _ => lift_ReadThrough os started H enc)
#print axioms FnExactReadThrough_holds
end Go.Proofs.Ytiflooopfpcelab
