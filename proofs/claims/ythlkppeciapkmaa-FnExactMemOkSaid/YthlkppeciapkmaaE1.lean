/- FnExactMemOk answers true at every memory: MemOk answers as its model does. No condition. -/
import Derived.Test.YthlkppeciapkmaaLaw
import Derived.Test.YthlkppeciapkmaaI1
import Derived.Deep.RegionHeld3
namespace Go.Proofs.Ythlkppeciapkmaa
open Go.ChangeShapes Go.WideShapes Go.ChangeAt Go.RowKit
set_option linter.unusedVariables false
def Held2 (w0 : World) (p : Addr) (u : Value) (q : Addr) (v : Value) (W : World) : Prop := Below w0.heap.size w0 W ∧ W.cell? p = some u ∧ W.cell? q = some v
set_option maxHeartbeats 1600000 in
theorem walk_MemOk (v : Value) (xs : List Int) (w : World) (h : RdA w v 1 xs.length (ints xs)) :
    Calls Try.prog 4 #[.agg #[v]] w fun e w' => e = .returned (.bool true) ∧ Below w.heap.size w w' := by
  obtain ⟨A, c, rfl, -, -, -, -⟩ := id h
  have hB := (Below.refl w.heap.size w).alloc (Nat.le_refl _) (.cells #[.slice A xs.length c] 34)
  have k1 := Bk.new w #[.slice A xs.length c] 34
  go_enter Try.func4, Try.ntmps4
  go_wp2_with fail
  refine (szMem _ _ _ 1048576 _ (h.below hB) (by omega) (by omega)).mono ?_
  rintro e w1 ⟨rfl, hb1⟩
  have hB1 := hB.trans (hb1.mono (by simp))
  have k1 := k1.below hb1 k1.lt
  by_cases hn : (1048576 : Int) - xs.length < 0
  · have hs : szF xs.length 1048576 = -1 := by unfold szF; rw [if_pos hn]
    rw [hs]
    clear hs hn
    go_wp2_with fail
    go_ret
    exact ⟨rfl, hB1⟩
  · have hs : szF xs.length 1048576 = 1048576 - xs.length := by unfold szF; rw [if_neg hn]
    rw [hs]
    clear hs
    have hn1 : ¬ (1048576 : Int) - xs.length < 0 := hn
    have hlen : xs.length ≤ 1048576 := by omega
    obtain ⟨hc1, hf1⟩ := k1.at_ 0 (x := .slice A xs.length c) rfl
    go_wp2_with fail
    refine (toMem _ xs _ (h.below hB1) hlen).mono ?_
    rintro e w2 ⟨v2, bs2, rfl, ho2, hbs2, hb2⟩
    have hB2 := hB1.trans (hb2.mono hB1.size)
    have k2 := k1.below hb2 k1.lt
    go_wp2_with fail
    refine (spec_MemOk _ xs _ ho2.rd).mono ?_
    rintro e w3 ⟨rfl, hb3⟩
    have hB3 := hB2.trans (hb3.mono hB2.size)
    have k3 := k2.below hb3 k2.lt
    obtain ⟨hc3, hf3⟩ := k3.at_ 0 (x := .slice A xs.length c) rfl
    go_wp2_with fail
    refine (toMem _ xs _ (h.below hB3) hlen).mono ?_
    rintro e w4 ⟨v4, bs4, rfl, ho4, hbs4, hb4⟩
    obtain ⟨A4, c4, rfl, -, -⟩ := ho4.slice
    have hB4 := hB3.trans (hb4.mono hB3.size)
    have k4 := k3.below hb4 k3.lt
    have hB5 := hB4.alloc hB4.size (.cells #[.slice A4 xs.length c4] 26)
    have k5 := k4.alloc (.cells #[.slice A4 xs.length c4] 26)
    have q5 := Bk.new w4 #[.slice A4 xs.length c4] 26
    have ho5 := ho4.below ((Below.refl _ _).alloc (Nat.le_refl _) (.cells #[.slice A4 xs.length c4] 26))
    go_wp2_with fail
    refine (impl_MemOk _ xs _ ho5.rd).mono ?_
    rintro e w6 ⟨rfl, hb6⟩
    have hB6 := hB5.trans (hb6.mono hB5.size)
    have k6 := k5.below hb6 k5.lt
    have q6 := q5.below hb6 q5.lt
    have ho6 := ho5.below hb6
    have hb : (memOk xs != memOk xs) = false := by simp
    obtain ⟨hc6, hf6⟩ := k6.at_ 0 (x := .slice A xs.length c) rfl
    obtain ⟨hd6, hg6⟩ := q6.at_ 0 (x := .slice A4 xs.length c4) rfl
    go_wp2_with fail
    have HS : ∀ W : World, Below w6.heap.size w6 W → Held2 w6 ⟨w.heap.size, 0, none⟩ (.slice A xs.length c) ⟨w4.heap.size, 0, none⟩ (.slice A4 xs.length c4) W := fun W hW =>
      ⟨hW, (hW.cell (p := ⟨w.heap.size, 0, none⟩) k6.lt).trans hc6, (hW.cell (p := ⟨w4.heap.size, 0, none⟩) q6.lt).trans hd6⟩
    have HSH := Lib.hid HS
    have HX := Lib.hid h
    have HO := Lib.hid ho6
    have HB := Lib.hid hB6
    clear HS
    go_region_held3 (fun W => Below w6.heap.size w6 W ∧ W.cell? ⟨w.heap.size, 0, none⟩ = some (.slice A xs.length c) ∧ W.cell? ⟨w4.heap.size, 0, none⟩ = some (.slice A4 xs.length c4)) (first | (exact HSH.out _ (Below.refl _ _).drew) | (exact HSH.out _ (by assumption)))
      (first
        | (go_at_call 20; have hS := (‹Below w6.heap.size w6 _ ∧ _ ∧ _›).1; refine (toMem _ xs _ (HX.out.below (HB.out.trans (hS.mono HB.out.size))) hlen).mono ?_; rintro e w7 ⟨v7, bs7, rfl, ho7, hbs7, hb7⟩; have hS7 := hS.trans (hb7.mono hS.size); have HO7 := Lib.hid ho7; clear hS)
        | (go_at_call 22; have hS := (‹Below w6.heap.size w6 _ ∧ _ ∧ _›).1; refine (eqMem _ _ xs xs _ (HO.out.below hS).rd HO7.out.rd).mono ?_; rintro e w8 ⟨rfl, hb8⟩; have hS8 := hS.trans (hb8.mono hS.size); clear hS))
    have hS := (‹Below w6.heap.size w6 _ ∧ _ ∧ _›).1
    go_wp2_with fail
    go_ret
    exact ⟨rfl, HB.out.trans (hS.mono HB.out.size)⟩
set_option maxRecDepth 100000 in
theorem lift_MemOk (os : Os) (started : os.Started) (H : Type) (enc : TypeId × Value → H) :
    ReturnsInHanded {} Try.checked os 4 .any (Rows.fnExactMemOkSpec.pre6 enc Try.prog Try.f4 Rows.fnExactMemOkRow.domain false) (Rows.fnExactMemOkSpec.post enc Try.prog Try.f4 false true false false) := by
  refine returnsInHanded_of_change (C := Try.checked) (by kernel_rfl) started (by kernel_rfl) Try.func4
    (ChangeSpec.witness6 (enc := enc) (C := Try.checked) false ⟨#[], #[.agg #[.slice none 0 0]], []⟩ 8 (by kernel_rfl) (by kernel_rfl) (by kernel_rfl) (by kernel_rfl)) ?_
  intro W base args ds gs before hval0 hW hcnd _
  have hval : ∀ (j : Nat) t v, Try.f4.params[j]? = some t → args[j]? = some v → Value.okWide Try.prog W .any base t v := hval0
  have hW' := hW
  obtain ⟨p, q, hA0, hV, rfl, hfz, hnd⟩ := hW
  have hA : DataW.TrodAll enc Try.prog W 0 (fun _ => true) true Try.f4.params.toList args.toList ds p := hA0
  rw [Try.params4] at hA hval
  obtain ⟨v0, vs0, d0, ds0, p0, q0, hargs, rfl, rfl, h0, r0⟩ := trodAll_cons hA
  obtain ⟨rfl, rfl, rfl⟩ := trodAll_nil r0
  obtain rfl : args = #[v0] := by cases args; simp_all
  obtain ⟨rfl, rfl⟩ := trodVars_none hV
  obtain ⟨c, xs, rfl, hR, _⟩ := read_mem Try.underlying34 ⟨rfl, rfl⟩ (by kernel_rfl) (by kernel_rfl) Try.underlying24 Try.underlying3 (by kernel_rfl) (hval 0 _ v0 rfl rfl) h0
  refine (walk_MemOk c xs W hR).mono fun e W' ⟨he, hb⟩ => ?_
  subst he
  exact ⟨_, rfl, post_law (by kernel_rfl) rfl rfl (by kernel_rfl) Try.underlying4 (of_decide_eq_true (by kernel_rfl)) hW' hb⟩
theorem FnExactMemOk_holds : Rows.FnExactMemOkSaid :=
  OpenClaim.holds_of_wide 4 Try.f4 rfl rfl rfl rfl rfl rfl rfl ⟨rfl, rfl, rfl, rfl, rfl⟩ rfl rfl rfl rfl rfl (by kernel_rfl) Try.func4 (by kernel_rfl)
    (of_decide_eq_true (by kernel_rfl)) (by unfold Func.isWrapper; first | (rw [if_pos (by decide +kernel)]; kernel_rfl) | (rw [if_neg (by decide +kernel)]; exact ⟨rfl, rfl⟩))
    (fun os started H enc _ => lift_MemOk os started H enc)
#print axioms FnExactMemOk_holds
end Go.Proofs.Ythlkppeciapkmaa
