/- FnExactInstrOk answers true at every input: InstrOk answers as its model does, leaves its arguments alone and owns its answer. Conditions: none. -/
import Derived.Test.YtiflooopfpcelabLaw
import Derived.Test.YtiflooopfpcelabLaw2
import Derived.Test.YtiflooopfpcelabI5
import Derived.Deep.RegionHeld3
namespace Go.Proofs.Ytiflooopfpcelab
set_option maxRecDepth 20000
set_option linter.unusedSimpArgs false
set_option linter.unusedVariables false
open Go.ChangeShapes Go.WideShapes Go.ChangeAt Go.RowKit
set_option linter.unusedVariables false
set_option maxHeartbeats 4000000 in
theorem walk_InstrOk (x0 : Ins) (a1 : Int) (a2 : Int) (w : World) (hw1 : (Lit.int .i64 a1).wf = true) (hw2 : (Lit.int .i64 a2).wf = true) :
    Calls Try.prog 6 #[.agg #[.int .i64 x0.o, .int .i64 x0.r, .int .i64 x0.s, .int .i64 x0.n], .int .i64 a1, .int .i64 a2] w fun e w' => e = .returned (.bool true) ∧ Below w.heap.size w w' := by
  have hB := Below.refl w.heap.size w
  go_enter Try.func6, Try.ntmps6
  go_wp2_with fail
  have hB' := hB.alloc hB.size (.cells #[.int .i64 x0.o, .int .i64 x0.r, .int .i64 x0.s, .int .i64 x0.n] 40)
  clear hB
  have k1 := Bk.new w #[.int .i64 x0.o, .int .i64 x0.r, .int .i64 x0.s, .int .i64 x0.n] 40
  refine (toInstr x0 _).mono ?_
  rintro e w2 ⟨rfl, hb2⟩
  have sz3 := hb2.size
  try simp only [World.size_alloc] at sz3
  have hB'' := hB'.trans (hb2.mono hB'.size)
  clear hB'
  have k1' := k1.below hb2 k1.lt
  clear k1
  obtain ⟨hc1x0, gc1x0⟩ := k1'.at_ 0 (x := .int .i64 x0.o) rfl
  obtain ⟨hc1x1, gc1x1⟩ := k1'.at_ 1 (x := .int .i64 x0.r) rfl
  obtain ⟨hc1x2, gc1x2⟩ := k1'.at_ 2 (x := .int .i64 x0.s) rfl
  obtain ⟨hc1x3, gc1x3⟩ := k1'.at_ 3 (x := .int .i64 x0.n) rfl
  have l1 := k1'.lt
  go_wp2_with fail
  refine (spec_InstrOk x0 a1 a2 _).mono ?_
  rintro e w4 ⟨rfl, hb4⟩
  clear hc1x0 gc1x0 hc1x1 gc1x1 hc1x2 gc1x2 hc1x3 gc1x3 l1
  have sz5 := hb4.size
  try simp only [World.size_alloc] at sz5
  have hB''' := hB''.trans (hb4.mono hB''.size)
  clear hB''
  have k1'' := k1'.below hb4 k1'.lt
  clear k1'
  obtain ⟨hc1x0, gc1x0⟩ := k1''.at_ 0 (x := .int .i64 x0.o) rfl
  obtain ⟨hc1x1, gc1x1⟩ := k1''.at_ 1 (x := .int .i64 x0.r) rfl
  obtain ⟨hc1x2, gc1x2⟩ := k1''.at_ 2 (x := .int .i64 x0.s) rfl
  obtain ⟨hc1x3, gc1x3⟩ := k1''.at_ 3 (x := .int .i64 x0.n) rfl
  have l1 := k1''.lt
  go_wp2_with fail
  refine (toInstr x0 _).mono ?_
  rintro e w6 ⟨rfl, hb6⟩
  clear hc1x0 gc1x0 hc1x1 gc1x1 hc1x2 gc1x2 hc1x3 gc1x3 l1
  have sz7 := hb6.size
  try simp only [World.size_alloc] at sz7
  have hB'''' := hB'''.trans (hb6.mono hB'''.size)
  clear hB'''
  have k1''' := k1''.below hb6 k1''.lt
  clear k1''
  obtain ⟨hc1x0, gc1x0⟩ := k1'''.at_ 0 (x := .int .i64 x0.o) rfl
  obtain ⟨hc1x1, gc1x1⟩ := k1'''.at_ 1 (x := .int .i64 x0.r) rfl
  obtain ⟨hc1x2, gc1x2⟩ := k1'''.at_ 2 (x := .int .i64 x0.s) rfl
  obtain ⟨hc1x3, gc1x3⟩ := k1'''.at_ 3 (x := .int .i64 x0.n) rfl
  have l1 := k1'''.lt
  go_wp2_with fail
  refine (impl_InstrOk x0 a1 a2 _).mono ?_
  rintro e w8 ⟨rfl, hb8⟩
  clear hc1x0 gc1x0 hc1x1 gc1x1 hc1x2 gc1x2 hc1x3 gc1x3 l1
  have sz9 := hb8.size
  try simp only [World.size_alloc] at sz9
  have hB''''' := hB''''.trans (hb8.mono hB''''.size)
  clear hB''''
  have k1'''' := k1'''.below hb8 k1'''.lt
  clear k1'''
  obtain ⟨hc1x0, gc1x0⟩ := k1''''.at_ 0 (x := .int .i64 x0.o) rfl
  obtain ⟨hc1x1, gc1x1⟩ := k1''''.at_ 1 (x := .int .i64 x0.r) rfl
  obtain ⟨hc1x2, gc1x2⟩ := k1''''.at_ 2 (x := .int .i64 x0.s) rfl
  obtain ⟨hc1x3, gc1x3⟩ := k1''''.at_ 3 (x := .int .i64 x0.n) rfl
  have l1 := k1''''.lt
  go_wp2_with fail
  go_ret
  exact ⟨rfl, hB'''''⟩
set_option maxRecDepth 100000 in
theorem lift_InstrOk (os : Os) (started : os.Started) (H : Type) (enc : TypeId × Value → H) :
    ReturnsInHanded {} Try.checked os 6 .any (Rows.fnExactInstrOkSpec.pre6 enc Try.prog Try.f6 Rows.fnExactInstrOkRow.domain false) (Rows.fnExactInstrOkSpec.post enc Try.prog Try.f6 false true false false) := by
  refine returnsInHanded_of_change (C := Try.checked) (by kernel_rfl) started (by kernel_rfl) Try.func6
    (ChangeSpec.witness6 (enc := enc) (C := Try.checked) false ⟨#[], #[.agg #[.int .i64 0, .int .i64 0, .int .i64 0, .int .i64 0], .int .i64 0, .int .i64 0], []⟩ 8 (by kernel_rfl) (by kernel_rfl) (by kernel_rfl) (by kernel_rfl)) ?_
  intro W base args ds gs before hval0 hW hcnd _
  have hval : ∀ (j : Nat) t v, Try.f6.params[j]? = some t → args[j]? = some v → Value.okWide Try.prog W .any base t v := hval0
  have hW' := hW
  obtain ⟨p, q, hA0, hV, rfl, hfz, hnd⟩ := hW
  have hA : DataW.TrodAll enc Try.prog W 0 (fun _ => true) true Try.f6.params.toList args.toList ds p := hA0
  rw [Try.params6] at hA hval
  obtain ⟨v0, vs0, d0, ds0, p0, q0, hargs, rfl, rfl, h0, r0⟩ := trodAll_cons hA
  obtain ⟨v1, vs1, d1, ds1, p1, q1, rfl, rfl, rfl, h1, r1⟩ := trodAll_cons r0
  obtain ⟨v2, vs2, d2, ds2, p2, q2, rfl, rfl, rfl, h2, r2⟩ := trodAll_cons r1
  obtain ⟨rfl, rfl, rfl⟩ := trodAll_nil r2
  obtain rfl : args = #[v0, v1, v2] := by cases args; simp_all
  obtain ⟨rfl, rfl⟩ := trodVars_none hV
  obtain ⟨x0, rfl, xw0⟩ := read_ins Try.underlying40 (by kernel_rfl) ⟨rfl, rfl, rfl, rfl⟩ (by decide +kernel) ⟨Try.underlying3, Try.underlying3, Try.underlying3, Try.underlying3⟩ (hval 0 _ v0 rfl rfl) h0
  obtain ⟨a1, rfl, rfl, rfl, w1⟩ := open_int Try.underlying3 (hval 1 _ v1 rfl rfl) h1
  obtain ⟨a2, rfl, rfl, rfl, w2⟩ := open_int Try.underlying3 (hval 2 _ v2 rfl rfl) h2
  refine (walk_InstrOk x0 a1 a2 W w1 w2).mono fun e W' ⟨he, hb⟩ => ?_
  subst he
  exact ⟨_, rfl, post_law (by kernel_rfl) rfl rfl (by kernel_rfl) Try.underlying4 (of_decide_eq_true (by kernel_rfl)) hW' hb⟩
theorem FnExactInstrOk_holds : Rows.FnExactInstrOkSaid :=
  OpenClaim.holds_of_wide 6 Try.f6 rfl rfl rfl rfl rfl rfl rfl ⟨rfl, rfl, rfl, rfl, rfl⟩ rfl rfl rfl rfl rfl (by kernel_rfl) Try.func6 (by kernel_rfl)
    (of_decide_eq_true (by kernel_rfl)) (by unfold Func.isWrapper; first | (rw [if_pos (by decide +kernel)]; kernel_rfl) | (rw [if_neg (by decide +kernel)]; exact ⟨rfl, rfl⟩))
    (fun os started H enc _ => lift_InstrOk os started H enc)
#print axioms FnExactInstrOk_holds
end Go.Proofs.Ytiflooopfpcelab
