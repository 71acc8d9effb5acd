/- FnExactGoodRef answers true at every input: GoodRef answers as its model does, leaves its arguments alone and owns its answer. Conditions: none. -/
import Derived.Test.YtpenneklpolhgaaLaw
import Derived.Test.YtpenneklpolhgaaLaw8
import Derived.Test.YtpenneklpolhgaaMH
import Derived.Test.YtpenneklpolhgaaH1
import Derived.Test.YtpenneklpolhgaaH11
import Derived.Deep.RegionHeld3
namespace Go.Proofs.Ytpenneklpolhgaa
set_option maxRecDepth 20000
set_option linter.unusedSimpArgs false
set_option linter.unusedVariables false
open Go.ChangeShapes Go.WideShapes Go.ChangeAt Go.RowKit
set_option linter.unusedVariables false
set_option maxHeartbeats 4000000 in
theorem walk_GoodRef (v0 u0 : Value) (x0 : Hp) (r1 : P2) (w : World) (hA0 : RdAHp w v0 u0 x0) :
    Calls Try.prog 6 #[.agg #[v0, u0], .agg #[.int .i64 r1.a, .int .i64 r1.b]] w fun e w' => e = .returned (.bool true) ∧ Below w.heap.size w w' := by
  obtain ⟨Aa0, da0, Ba0, ea0, rfl, rfl⟩ := hA0.slices
  have HAaH := Lib.hid hA0
  clear hA0
  have hB := Below.refl w.heap.size w
  go_enter Try.func6, Try.ntmps6
  go_wp2_with fail
  have hB' := hB.alloc hB.size (.cells #[.slice Aa0 x0.g.length da0, .slice Ba0 x0.l.length ea0] 25)
  clear hB
  have k1 := Bk.new w #[.slice Aa0 x0.g.length da0, .slice Ba0 x0.l.length ea0] 25
  have k1' := k1.alloc (.cells #[.int .i64 r1.a, .int .i64 r1.b] 41)
  clear k1
  have hB'' := hB'.alloc hB'.size (.cells #[.int .i64 r1.a, .int .i64 r1.b] 41)
  clear hB'
  have k2 := Bk.new (w.alloc (.cells #[.slice Aa0 x0.g.length da0, .slice Ba0 x0.l.length ea0] 25)) #[.int .i64 r1.a, .int .i64 r1.b] 41
  simp only [World.size_alloc] at k2
  refine (szHeap _ _ x0 (1048576) _ (HAaH.out.below hB'') (by omega) (by omega)).mono ?_
  rintro e w3 ⟨rfl, hb3⟩
  have sz4 := hb3.size
  try simp only [World.size_alloc] at sz4
  have hB''' := hB''.trans (hb3.mono hB''.size)
  clear hB''
  have k1'' := k1'.below hb3 k1'.lt
  clear k1'
  have k2' := k2.below hb3 k2.lt
  clear k2
  by_cases hn3 : (1048576 : Int) - (totHp x0) < 0
  · rw [show szF (totHp x0) (1048576) = -1 by unfold szF; rw [if_pos hn3]]
    go_wp2_with fail
    go_ret
    exact ⟨rfl, hB'''⟩
  rw [show szF (totHp x0) (1048576) = 1048576 - (totHp x0) by unfold szF; rw [if_neg hn3]]
  obtain ⟨hc1x0, gc1x0⟩ := k1''.at_ 0 (x := .slice Aa0 x0.g.length da0) rfl
  obtain ⟨hc1x1, gc1x1⟩ := k1''.at_ 1 (x := .slice Ba0 x0.l.length ea0) rfl
  have l1 := k1''.lt
  obtain ⟨hc2x0, gc2x0⟩ := k2'.at_ 0 (x := .int .i64 r1.a) rfl
  obtain ⟨hc2x1, gc2x1⟩ := k2'.at_ 1 (x := .int .i64 r1.b) rfl
  have l2 := k2'.lt
  go_wp2_with fail
  clear hc1x0 gc1x0 hc1x1 gc1x1 l1 hc2x0 gc2x0 hc2x1 gc2x1 l2
  obtain ⟨hc1x0, gc1x0⟩ := k1''.at_ 0 (x := .slice Aa0 x0.g.length da0) rfl
  obtain ⟨hc1x1, gc1x1⟩ := k1''.at_ 1 (x := .slice Ba0 x0.l.length ea0) rfl
  have l1 := k1''.lt
  obtain ⟨hc2x0, gc2x0⟩ := k2'.at_ 0 (x := .int .i64 r1.a) rfl
  obtain ⟨hc2x1, gc2x1⟩ := k2'.at_ 1 (x := .int .i64 r1.b) rfl
  have l2 := k2'.lt
  have HS8 : Hid (∀ W : World, Below w3.heap.size w3 W → Below w3.heap.size w3 W ∧ W.cell? ⟨w.heap.size, 0, none⟩ = some (.slice Aa0 x0.g.length da0) ∧ W.cell? ⟨w.heap.size, 1, none⟩ = some (.slice Ba0 x0.l.length ea0) ∧ W.cell? ⟨w.heap.size + 1, 0, none⟩ = some (.int .i64 r1.a) ∧ W.cell? ⟨w.heap.size + 1, 1, none⟩ = some (.int .i64 r1.b)) := Lib.hid fun W hW => ⟨hW, (hW.cell (p := ⟨w.heap.size, 0, none⟩) k1''.lt).trans hc1x0, (hW.cell (p := ⟨w.heap.size, 1, none⟩) k1''.lt).trans hc1x1, (hW.cell (p := ⟨w.heap.size + 1, 0, none⟩) k2'.lt).trans hc2x0, (hW.cell (p := ⟨w.heap.size + 1, 1, none⟩) k2'.lt).trans hc2x1⟩
  have HhB___ := Lib.hid hB'''
  go_region_held3 (fun W => Below w3.heap.size w3 W ∧ W.cell? ⟨w.heap.size, 0, none⟩ = some (.slice Aa0 x0.g.length da0) ∧ W.cell? ⟨w.heap.size, 1, none⟩ = some (.slice Ba0 x0.l.length ea0) ∧ W.cell? ⟨w.heap.size + 1, 0, none⟩ = some (.int .i64 r1.a) ∧ W.cell? ⟨w.heap.size + 1, 1, none⟩ = some (.int .i64 r1.b)) (first | (exact HS8.out _ (Below.refl _ _).drew) | (exact HS8.out _ (by assumption)))
    (first
      | (go_at_call_of 11 (Value.agg #[Value.slice Aa0 x0.g.length da0, Value.slice Ba0 x0.l.length ea0] : Value); have hS := ‹Below w3.heap.size w3 _ ∧ _›.1; refine (toHeap _ _ x0 _ (HAaH.out.below (HhB___.out.trans (hS.mono HhB___.out.size))) (by omega)).mono ?_; rintro e w5 ⟨v5x0, v5x1, bs5, rfl, ho5, lo5, hb5⟩; have hS8x0 := hS.trans (hb5.mono hS.size); clear hS)
      | (go_at_call_of 22 (Value.agg #[Value.int .i64 r1.a, Value.int .i64 r1.b] : Value); have hS := ‹Below w3.heap.size w3 _ ∧ _›.1; refine (toRef r1 _).mono ?_; rintro e w6 ⟨rfl, hb6⟩; have ho5 := ho5.below hb6; have hS8x1 := hS.trans (hb6.mono hS.size); clear hS)
      | (go_at_call 21; have hS := ‹Below w3.heap.size w3 _ ∧ _›.1; refine (spec_GoodRef _ _ x0 r1 _ ho5.rd).mono ?_; rintro e w7 ⟨rfl, hb7⟩; have ho5 := ho5.below hb7; have hS8x2 := hS.trans (hb7.mono hS.size); clear hS))
  have hS8 := ‹Below w3.heap.size w3 _ ∧ _›.1
  clear HS8 HhB___
  clear hc1x0 gc1x0 hc1x1 gc1x1 l1 hc2x0 gc2x0 hc2x1 gc2x1 l2
  have sz9 := hS8.size
  try simp only [World.size_alloc] at sz9
  have hB'''' := hB'''.trans (hS8.mono hB'''.size)
  clear hB'''
  have k1''' := k1''.below hS8 k1''.lt
  clear k1''
  have k2'' := k2'.below hS8 k2'.lt
  clear k2'
  clear hS8
  clear ho5
  obtain ⟨hc1x0, gc1x0⟩ := k1'''.at_ 0 (x := .slice Aa0 x0.g.length da0) rfl
  obtain ⟨hc1x1, gc1x1⟩ := k1'''.at_ 1 (x := .slice Ba0 x0.l.length ea0) rfl
  have l1 := k1'''.lt
  obtain ⟨hc2x0, gc2x0⟩ := k2''.at_ 0 (x := .int .i64 r1.a) rfl
  obtain ⟨hc2x1, gc2x1⟩ := k2''.at_ 1 (x := .int .i64 r1.b) rfl
  have l2 := k2''.lt
  go_wp2_with fail
  refine (toHeap _ _ x0 _ (HAaH.out.below hB'''') (by omega)).mono ?_
  rintro e w10 ⟨v10x0, v10x1, bs10, rfl, ho10, lo10, hb10⟩
  clear hc1x0 gc1x0 hc1x1 gc1x1 l1 hc2x0 gc2x0 hc2x1 gc2x1 l2
  have sz11 := hb10.size
  try simp only [World.size_alloc] at sz11
  have hB''''' := hB''''.trans (hb10.mono hB''''.size)
  clear hB''''
  have k1'''' := k1'''.below hb10 k1'''.lt
  clear k1'''
  have k2''' := k2''.below hb10 k2''.lt
  clear k2''
  have hi10 := ho10.lt
  try simp only [World.size_alloc] at lo10
  obtain ⟨A10, d10, B10, e10, rfl, rfl⟩ := ho10.slices
  obtain ⟨hc1x0, gc1x0⟩ := k1''''.at_ 0 (x := .slice Aa0 x0.g.length da0) rfl
  obtain ⟨hc1x1, gc1x1⟩ := k1''''.at_ 1 (x := .slice Ba0 x0.l.length ea0) rfl
  have l1 := k1''''.lt
  obtain ⟨hc2x0, gc2x0⟩ := k2'''.at_ 0 (x := .int .i64 r1.a) rfl
  obtain ⟨hc2x1, gc2x1⟩ := k2'''.at_ 1 (x := .int .i64 r1.b) rfl
  have l2 := k2'''.lt
  go_wp2_with fail
  clear hc1x0 gc1x0 hc1x1 gc1x1 l1 hc2x0 gc2x0 hc2x1 gc2x1 l2
  have k1''''' := k1''''.alloc (.cells #[.slice A10 x0.g.length d10, .slice B10 x0.l.length e10] 28)
  clear k1''''
  have k2'''' := k2'''.alloc (.cells #[.slice A10 x0.g.length d10, .slice B10 x0.l.length e10] 28)
  clear k2'''
  have ho10' := ho10.below ((Below.refl _ _).alloc (Nat.le_refl _) (.cells #[.slice A10 x0.g.length d10, .slice B10 x0.l.length e10] 28))
  clear ho10
  have hB'''''' := hB'''''.alloc hB'''''.size (.cells #[.slice A10 x0.g.length d10, .slice B10 x0.l.length e10] 28)
  clear hB'''''
  have k12 := Bk.new w10 #[.slice A10 x0.g.length d10, .slice B10 x0.l.length e10] 28
  obtain ⟨wq15, hwq15⟩ : ∃ wq, wq = (w10.alloc (.cells #[.slice A10 x0.g.length d10, .slice B10 x0.l.length e10] 28)) := ⟨_, rfl⟩
  rw [← hwq15] at hB'''''' k1''''' k2'''' k12 ho10' ⊢
  clear hwq15
  obtain ⟨hc1x0, gc1x0⟩ := k1'''''.at_ 0 (x := .slice Aa0 x0.g.length da0) rfl
  obtain ⟨hc1x1, gc1x1⟩ := k1'''''.at_ 1 (x := .slice Ba0 x0.l.length ea0) rfl
  have l1 := k1'''''.lt
  obtain ⟨hc2x0, gc2x0⟩ := k2''''.at_ 0 (x := .int .i64 r1.a) rfl
  obtain ⟨hc2x1, gc2x1⟩ := k2''''.at_ 1 (x := .int .i64 r1.b) rfl
  have l2 := k2''''.lt
  obtain ⟨hc12x0, gc12x0⟩ := k12.at_ 0 (x := .slice A10 x0.g.length d10) rfl
  obtain ⟨hc12x1, gc12x1⟩ := k12.at_ 1 (x := .slice B10 x0.l.length e10) rfl
  have l12 := k12.lt
  have HS16 : Hid (∀ W : World, Below wq15.heap.size wq15 W → Below wq15.heap.size wq15 W ∧ W.cell? ⟨w10.heap.size, 0, none⟩ = some (.slice A10 x0.g.length d10) ∧ W.cell? ⟨w10.heap.size, 1, none⟩ = some (.slice B10 x0.l.length e10) ∧ W.cell? ⟨w.heap.size + 1, 0, none⟩ = some (.int .i64 r1.a) ∧ W.cell? ⟨w.heap.size + 1, 1, none⟩ = some (.int .i64 r1.b)) := Lib.hid fun W hW => ⟨hW, (hW.cell (p := ⟨w10.heap.size, 0, none⟩) k12.lt).trans hc12x0, (hW.cell (p := ⟨w10.heap.size, 1, none⟩) k12.lt).trans hc12x1, (hW.cell (p := ⟨w.heap.size + 1, 0, none⟩) k2''''.lt).trans hc2x0, (hW.cell (p := ⟨w.heap.size + 1, 1, none⟩) k2''''.lt).trans hc2x1⟩
  have HhB______ := Lib.hid hB''''''
  have Hho10_ := Lib.hid ho10'
  go_region_held3 (fun W => Below wq15.heap.size wq15 W ∧ W.cell? ⟨w10.heap.size, 0, none⟩ = some (.slice A10 x0.g.length d10) ∧ W.cell? ⟨w10.heap.size, 1, none⟩ = some (.slice B10 x0.l.length e10) ∧ W.cell? ⟨w.heap.size + 1, 0, none⟩ = some (.int .i64 r1.a) ∧ W.cell? ⟨w.heap.size + 1, 1, none⟩ = some (.int .i64 r1.b)) (first | (exact HS16.out _ (Below.refl _ _).drew) | (exact HS16.out _ (by assumption)))
    (first
      | (go_at_call_of 22 (Value.agg #[Value.int .i64 r1.a, Value.int .i64 r1.b] : Value); have hS := ‹Below wq15.heap.size wq15 _ ∧ _›.1; refine (toRef r1 _).mono ?_; rintro e w13 ⟨rfl, hb13⟩; have hS16x0 := hS.trans (hb13.mono hS.size); clear hS)
      | (go_at_call 23; have hS := ‹Below wq15.heap.size wq15 _ ∧ _›.1; refine (impl_GoodRef _ _ x0 r1 _ (Hho10_.out.below hS).rd).mono ?_; rintro e w14 ⟨rfl, hb14⟩; have hS16x1 := hS.trans (hb14.mono hS.size); clear hS))
  have hS16 := ‹Below wq15.heap.size wq15 _ ∧ _›.1
  clear HS16 HhB______ Hho10_
  clear hc1x0 gc1x0 hc1x1 gc1x1 l1 hc2x0 gc2x0 hc2x1 gc2x1 l2 hc12x0 gc12x0 hc12x1 gc12x1 l12
  have sz17 := hS16.size
  try simp only [World.size_alloc] at sz17
  have hB''''''' := hB''''''.trans (hS16.mono hB''''''.size)
  clear hB''''''
  have k1'''''' := k1'''''.below hS16 k1'''''.lt
  clear k1'''''
  have k2''''' := k2''''.below hS16 k2''''.lt
  clear k2''''
  have k12' := k12.below hS16 k12.lt
  clear k12
  have ho10'' := ho10'.below hS16
  clear ho10'
  clear hS16
  obtain ⟨hc1x0, gc1x0⟩ := k1''''''.at_ 0 (x := .slice Aa0 x0.g.length da0) rfl
  obtain ⟨hc1x1, gc1x1⟩ := k1''''''.at_ 1 (x := .slice Ba0 x0.l.length ea0) rfl
  have l1 := k1''''''.lt
  obtain ⟨hc2x0, gc2x0⟩ := k2'''''.at_ 0 (x := .int .i64 r1.a) rfl
  obtain ⟨hc2x1, gc2x1⟩ := k2'''''.at_ 1 (x := .int .i64 r1.b) rfl
  have l2 := k2'''''.lt
  obtain ⟨hc12x0, gc12x0⟩ := k12'.at_ 0 (x := .slice A10 x0.g.length d10) rfl
  obtain ⟨hc12x1, gc12x1⟩ := k12'.at_ 1 (x := .slice B10 x0.l.length e10) rfl
  have l12 := k12'.lt
  go_wp2_with fail
  clear hc1x0 gc1x0 hc1x1 gc1x1 l1 hc2x0 gc2x0 hc2x1 gc2x1 l2 hc12x0 gc12x0 hc12x1 gc12x1 l12
  obtain ⟨hc1x0, gc1x0⟩ := k1''''''.at_ 0 (x := .slice Aa0 x0.g.length da0) rfl
  obtain ⟨hc1x1, gc1x1⟩ := k1''''''.at_ 1 (x := .slice Ba0 x0.l.length ea0) rfl
  have l1 := k1''''''.lt
  obtain ⟨hc2x0, gc2x0⟩ := k2'''''.at_ 0 (x := .int .i64 r1.a) rfl
  obtain ⟨hc2x1, gc2x1⟩ := k2'''''.at_ 1 (x := .int .i64 r1.b) rfl
  have l2 := k2'''''.lt
  obtain ⟨hc12x0, gc12x0⟩ := k12'.at_ 0 (x := .slice A10 x0.g.length d10) rfl
  obtain ⟨hc12x1, gc12x1⟩ := k12'.at_ 1 (x := .slice B10 x0.l.length e10) rfl
  have l12 := k12'.lt
  have HS19 : Hid (∀ W : World, Below w14.heap.size w14 W → Below w14.heap.size w14 W ∧ W.cell? ⟨w10.heap.size, 0, none⟩ = some (.slice A10 x0.g.length d10) ∧ W.cell? ⟨w10.heap.size, 1, none⟩ = some (.slice B10 x0.l.length e10) ∧ W.cell? ⟨w.heap.size, 0, none⟩ = some (.slice Aa0 x0.g.length da0) ∧ W.cell? ⟨w.heap.size, 1, none⟩ = some (.slice Ba0 x0.l.length ea0)) := Lib.hid fun W hW => ⟨hW, (hW.cell (p := ⟨w10.heap.size, 0, none⟩) k12'.lt).trans hc12x0, (hW.cell (p := ⟨w10.heap.size, 1, none⟩) k12'.lt).trans hc12x1, (hW.cell (p := ⟨w.heap.size, 0, none⟩) k1''''''.lt).trans hc1x0, (hW.cell (p := ⟨w.heap.size, 1, none⟩) k1''''''.lt).trans hc1x1⟩
  have HhB_______ := Lib.hid hB'''''''
  have Hho10__ := Lib.hid ho10''
  go_region_held3 (fun W => Below w14.heap.size w14 W ∧ W.cell? ⟨w10.heap.size, 0, none⟩ = some (.slice A10 x0.g.length d10) ∧ W.cell? ⟨w10.heap.size, 1, none⟩ = some (.slice B10 x0.l.length e10) ∧ W.cell? ⟨w.heap.size, 0, none⟩ = some (.slice Aa0 x0.g.length da0) ∧ W.cell? ⟨w.heap.size, 1, none⟩ = some (.slice Ba0 x0.l.length ea0)) (first | (exact HS19.out _ (Below.refl _ _).drew) | (exact HS19.out _ (by assumption)))
    (first
      | (go_at_call 11; have hS := ‹Below w14.heap.size w14 _ ∧ _›.1; refine (toHeap _ _ x0 _ (HAaH.out.below (HhB_______.out.trans (hS.mono HhB_______.out.size))) (by omega)).mono ?_; rintro e wa18 ⟨vv0, vv1, bsw, rfl, how, low, hbw18⟩; have HO18 := Lib.hid how; clear how low; have hS19x0 := hS.trans (hbw18.mono hS.size); clear hS)
      | (go_at_call 13; have hS := ‹Below w14.heap.size w14 _ ∧ _›.1; refine (eqHeap _ _ _ _ (x0) (x0) _ (Hho10__.out.below hS).rd HO18.out.rd).mono ?_; rintro e w18 ⟨rfl, hbe18⟩; have hS19x1 := hS.trans (hbe18.mono hS.size); clear hS))
  have hS19 := ‹Below w14.heap.size w14 _ ∧ _›.1
  clear HS19 HhB_______ Hho10__
  clear hc1x0 gc1x0 hc1x1 gc1x1 l1 hc2x0 gc2x0 hc2x1 gc2x1 l2 hc12x0 gc12x0 hc12x1 gc12x1 l12
  have sz20 := hS19.size
  try simp only [World.size_alloc] at sz20
  have hB'''''''' := hB'''''''.trans (hS19.mono hB'''''''.size)
  clear hB'''''''
  have k1''''''' := k1''''''.below hS19 k1''''''.lt
  clear k1''''''
  have k2'''''' := k2'''''.below hS19 k2'''''.lt
  clear k2'''''
  have k12'' := k12'.below hS19 k12'.lt
  clear k12'
  have ho10''' := ho10''.below hS19
  clear ho10''
  clear hS19
  clear HO18
  obtain ⟨hc1x0, gc1x0⟩ := k1'''''''.at_ 0 (x := .slice Aa0 x0.g.length da0) rfl
  obtain ⟨hc1x1, gc1x1⟩ := k1'''''''.at_ 1 (x := .slice Ba0 x0.l.length ea0) rfl
  have l1 := k1'''''''.lt
  obtain ⟨hc2x0, gc2x0⟩ := k2''''''.at_ 0 (x := .int .i64 r1.a) rfl
  obtain ⟨hc2x1, gc2x1⟩ := k2''''''.at_ 1 (x := .int .i64 r1.b) rfl
  have l2 := k2''''''.lt
  obtain ⟨hc12x0, gc12x0⟩ := k12''.at_ 0 (x := .slice A10 x0.g.length d10) rfl
  obtain ⟨hc12x1, gc12x1⟩ := k12''.at_ 1 (x := .slice B10 x0.l.length e10) rfl
  have l12 := k12''.lt
  go_wp2_with fail
  go_ret
  exact ⟨rfl, hB''''''''⟩
set_option maxRecDepth 100000 in
theorem lift_GoodRef (os : Os) (started : os.Started) (H : Type) (enc : TypeId × Value → H) :
    ReturnsInHanded {} Try.checked os 6 .any (Rows.fnExactGoodRefSpec.pre6 enc Try.prog Try.f6 Rows.fnExactGoodRefRow.domain false) (Rows.fnExactGoodRefSpec.post enc Try.prog Try.f6 false true false false) := by
  refine returnsInHanded_of_change (C := Try.checked) (by kernel_rfl) started (by kernel_rfl) Try.func6
    (ChangeSpec.witness6 (enc := enc) (C := Try.checked) false ⟨#[], #[.agg #[.slice none 0 0, .slice none 0 0], .agg #[.int .i64 0, .int .i64 0]], []⟩ 8 (by kernel_rfl) (by kernel_rfl) (by kernel_rfl) (by kernel_rfl)) ?_
  intro W base args ds gs before hval0 hW hcnd _
  have hval : ∀ (j : Nat) t v, Try.f6.params[j]? = some t → args[j]? = some v → Value.okWide Try.prog W .any base t v := hval0
  have hW' := hW
  obtain ⟨p, q, hA0, hV, rfl, hfz, hnd⟩ := hW
  have hA : DataW.TrodAll enc Try.prog W 0 (fun _ => true) true Try.f6.params.toList args.toList ds p := hA0
  rw [Try.params6] at hA hval
  obtain ⟨v0, vs0, d0, ds0, p0, q0, hargs, rfl, rfl, h0, r0⟩ := trodAll_cons hA
  obtain ⟨v1, vs1, d1, ds1, p1, q1, rfl, rfl, rfl, h1, r1⟩ := trodAll_cons r0
  obtain ⟨rfl, rfl, rfl⟩ := trodAll_nil r1
  obtain rfl : args = #[v0, v1] := by cases args; simp_all
  obtain ⟨rfl, rfl⟩ := trodVars_none hV
  obtain ⟨c0, u0, x0, rfl, hR0, hI0⟩ := read_heap Try.underlying25 ⟨rfl, rfl⟩ (by decide +kernel) ⟨by kernel_rfl, by kernel_rfl⟩ Try.underlying22 Try.underlying3 (by kernel_rfl) Try.underlying23 Try.underlying4 (by kernel_rfl) (hval 0 _ v0 rfl rfl) h0
  obtain ⟨x1, rfl, xw1⟩ := read_p2 Try.underlying41 (by kernel_rfl) ⟨rfl, rfl⟩ (by decide +kernel) ⟨Try.underlying3, Try.underlying3⟩ (hval 1 _ v1 rfl rfl) h1
  refine (walk_GoodRef _ _ x0 x1 W hR0).mono fun e W' ⟨he, hb⟩ => ?_
  subst he
  exact ⟨_, rfl, post_law (by kernel_rfl) rfl rfl (by kernel_rfl) Try.underlying4 (of_decide_eq_true (by kernel_rfl)) hW' hb⟩
theorem FnExactGoodRef_holds : Rows.FnExactGoodRefSaid :=
  OpenClaim.holds_of_wide 6 Try.f6 rfl rfl rfl rfl rfl rfl rfl ⟨rfl, rfl, rfl, rfl, rfl⟩ rfl rfl rfl rfl rfl (by kernel_rfl) Try.func6 (by kernel_rfl)
    (of_decide_eq_true (by kernel_rfl)) (by unfold Func.isWrapper; first | (rw [if_pos (by decide +kernel)]; kernel_rfl) | (rw [if_neg (by decide +kernel)]; exact ⟨rfl, rfl⟩))
    (fun os started H enc _ => lift_GoodRef os started H enc)
#print axioms FnExactGoodRef_holds
end Go.Proofs.Ytpenneklpolhgaa
