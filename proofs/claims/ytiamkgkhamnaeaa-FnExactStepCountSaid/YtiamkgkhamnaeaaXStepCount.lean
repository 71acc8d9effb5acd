/- FnExactStepCount answers true at every input: StepCount answers as its model does, leaves its arguments alone and owns its answer. Conditions: none. -/
import Derived.Test.YtiamkgkhamnaeaaLaw
import Derived.Test.YtiamkgkhamnaeaaLaw9
import Derived.Test.YtiamkgkhamnaeaaLaw10
import Derived.Test.YtiamkgkhamnaeaaMN
import Derived.Test.YtiamkgkhamnaeaaNC6
import Derived.Deep.RegionHeld3
namespace Go.Proofs.Ytiamkgkhamnaeaa
set_option maxRecDepth 20000
set_option linter.unusedSimpArgs false
set_option linter.unusedVariables false
open Go.ChangeShapes Go.WideShapes Go.ChangeAt Go.RowKit
set_option linter.unusedVariables false
set_option maxHeartbeats 4000000 in
theorem walk_StepCount (v0 u0 s0 r0 : Value) (x0 : Bn) (x1 : O3) (w : World) (hA0 : RdABn w v0 u0 s0 r0 x0) (hS0 : BnR x0) :
    Calls Try.prog 3 #[.agg #[v0, u0, s0, r0, .int .i64 x0.n], .agg #[.int .i64 x1.k, .int .i64 x1.t, .int .i64 x1.x]] w fun e w' => e = .returned (.bool true) ∧ Below w.heap.size w w' := by
  obtain ⟨Aa0, da0, Ba0, ea0, Ca0, fa0, Da0, ga0, rfl, rfl, rfl, rfl⟩ := hA0.slices
  have HAaB := Lib.hid hA0
  clear hA0
  have hqc : cntBn x0 ≤ 2 * szBn x0 := by unfold cntBn szBn; omega
  have hqd : cntBn (stepBn x0 x1) ≤ cntBn x0 + 2 := stepBn_cnt x0 x1
  have hB := Below.refl w.heap.size w
  go_enter Try.func3, Try.ntmps3
  go_wp2_with fail
  have hB' := hB.alloc hB.size (.cells #[.slice Aa0 x0.l.length da0, .slice Ba0 x0.h.length ea0, .slice Ca0 x0.w.length fa0, .slice Da0 x0.f.length ga0, .int .i64 x0.n] 25)
  clear hB
  have k1 := Bk.new w #[.slice Aa0 x0.l.length da0, .slice Ba0 x0.h.length ea0, .slice Ca0 x0.w.length fa0, .slice Da0 x0.f.length ga0, .int .i64 x0.n] 25
  have k1' := k1.alloc (.cells #[.int .i64 x1.k, .int .i64 x1.t, .int .i64 x1.x] 27)
  clear k1
  have hB'' := hB'.alloc hB'.size (.cells #[.int .i64 x1.k, .int .i64 x1.t, .int .i64 x1.x] 27)
  clear hB'
  have k2 := Bk.new (w.alloc (.cells #[.slice Aa0 x0.l.length da0, .slice Ba0 x0.h.length ea0, .slice Ca0 x0.w.length fa0, .slice Da0 x0.f.length ga0, .int .i64 x0.n] 25)) #[.int .i64 x1.k, .int .i64 x1.t, .int .i64 x1.x] 27
  simp only [World.size_alloc] at k2
  refine (szBench _ _ _ _ x0 (1048576) _ (HAaB.out.below hB'') (by omega) (by omega)).mono ?_
  rintro e w3 ⟨rfl, hb3⟩
  have sz4 := hb3.size
  try simp only [World.size_alloc] at sz4
  have hB''' := hB''.trans (hb3.mono hB''.size)
  clear hB''
  have k1'' := k1'.below hb3 k1'.lt
  clear k1'
  have k2' := k2.below hb3 k2.lt
  clear k2
  by_cases hn3 : (1048576 : Int) - (szBn x0) < 0
  · rw [show szF (szBn x0) (1048576) = -1 by unfold szF; rw [if_pos hn3]]
    go_wp2_with fail
    go_ret
    exact ⟨rfl, hB'''⟩
  rw [show szF (szBn x0) (1048576) = 1048576 - (szBn x0) by unfold szF; rw [if_neg hn3]]
  obtain ⟨hc1x0, gc1x0⟩ := k1''.at_ 0 (x := .slice Aa0 x0.l.length da0) rfl
  obtain ⟨hc1x1, gc1x1⟩ := k1''.at_ 1 (x := .slice Ba0 x0.h.length ea0) rfl
  obtain ⟨hc1x2, gc1x2⟩ := k1''.at_ 2 (x := .slice Ca0 x0.w.length fa0) rfl
  obtain ⟨hc1x3, gc1x3⟩ := k1''.at_ 3 (x := .slice Da0 x0.f.length ga0) rfl
  obtain ⟨hc1x4, gc1x4⟩ := k1''.at_ 4 (x := .int .i64 x0.n) rfl
  have l1 := k1''.lt
  obtain ⟨hc2x0, gc2x0⟩ := k2'.at_ 0 (x := .int .i64 x1.k) rfl
  obtain ⟨hc2x1, gc2x1⟩ := k2'.at_ 1 (x := .int .i64 x1.t) rfl
  obtain ⟨hc2x2, gc2x2⟩ := k2'.at_ 2 (x := .int .i64 x1.x) rfl
  have l2 := k2'.lt
  go_wp2_with fail
  clear hc1x0 gc1x0 hc1x1 gc1x1 hc1x2 gc1x2 hc1x3 gc1x3 hc1x4 gc1x4 l1 hc2x0 gc2x0 hc2x1 gc2x1 hc2x2 gc2x2 l2
  obtain ⟨hc1x0, gc1x0⟩ := k1''.at_ 0 (x := .slice Aa0 x0.l.length da0) rfl
  obtain ⟨hc1x1, gc1x1⟩ := k1''.at_ 1 (x := .slice Ba0 x0.h.length ea0) rfl
  obtain ⟨hc1x2, gc1x2⟩ := k1''.at_ 2 (x := .slice Ca0 x0.w.length fa0) rfl
  obtain ⟨hc1x3, gc1x3⟩ := k1''.at_ 3 (x := .slice Da0 x0.f.length ga0) rfl
  obtain ⟨hc1x4, gc1x4⟩ := k1''.at_ 4 (x := .int .i64 x0.n) rfl
  have l1 := k1''.lt
  obtain ⟨hc2x0, gc2x0⟩ := k2'.at_ 0 (x := .int .i64 x1.k) rfl
  obtain ⟨hc2x1, gc2x1⟩ := k2'.at_ 1 (x := .int .i64 x1.t) rfl
  obtain ⟨hc2x2, gc2x2⟩ := k2'.at_ 2 (x := .int .i64 x1.x) rfl
  have l2 := k2'.lt
  have hrl5x1 := k1''.lt
  have hrl5x2 := k2'.lt
  have pp5x1x0 := fun q : Past w3 => Past.cell hrl5x1 hc1x0 q
  have pp5x1x1 := fun q : Past w3 => Past.cell hrl5x1 hc1x1 q
  have pp5x1x2 := fun q : Past w3 => Past.cell hrl5x1 hc1x2 q
  have pp5x1x3 := fun q : Past w3 => Past.cell hrl5x1 hc1x3 q
  have pp5x1x4 := fun q : Past w3 => Past.cell hrl5x1 hc1x4 q
  have pp5x2x0 := fun q : Past w3 => Past.cell hrl5x2 hc2x0 q
  have pp5x2x1 := fun q : Past w3 => Past.cell hrl5x2 hc2x1 q
  have pp5x2x2 := fun q : Past w3 => Past.cell hrl5x2 hc2x2 q
  clear gc1x0
  clear gc1x1
  clear gc1x2
  clear gc1x3
  clear gc1x4
  clear gc2x0
  clear gc2x1
  clear gc2x2
  clear hc1x0
  clear hc1x1
  clear hc1x2
  clear hc1x3
  clear hc1x4
  clear hc2x0
  clear hc2x1
  clear hc2x2
  have HB5 := Lib.hid hB'''
  go_cut [6, 7] (fun p5x0 p5x1 wz => ∃ (A6 : Option Addr) (d6 : Nat) (B6 : Option Addr) (e6 : Nat) (C6 : Option Addr) (f6 : Nat) (D6 : Option Addr) (g6 : Nat) (bs6 : List Nat) (gg5 : Nat), p5x0 = .pointer (some ⟨gg5, 0, none⟩) ∧ p5x1 = .int .i64 (stepR x0 x1) ∧ OwnBn wz (.slice A6 (stepBn x0 x1).l.length d6) (.slice B6 (stepBn x0 x1).h.length e6) (.slice C6 (stepBn x0 x1).w.length f6) (.slice D6 (stepBn x0 x1).f.length g6) (stepBn x0 x1) bs6 ∧ (∀ b ∈ bs6, w3.heap.size ≤ b) ∧ Bk wz gg5 #[.slice A6 (stepBn x0 x1).l.length d6, .slice B6 (stepBn x0 x1).h.length e6, .slice C6 (stepBn x0 x1).w.length f6, .slice D6 (stepBn x0 x1).f.length g6, .int .i64 (stepBn x0 x1).n] 31 ∧ w3.heap.size ≤ gg5 ∧ Below w3.heap.size w3 wz ∧ gg5 ∉ bs6)
  case first =>
    refine wp_region_two 10 10 (fun w' => ∃ q : Past w3, w' = q.v) (fun _ => True) (by kernel_rfl) ?_
    obtain ⟨w0, hw0⟩ : ∃ w0, w0 = w3.drew := ⟨_, rfl⟩
    have T0 : Hid (Below w3.heap.size w3 w0) := Lib.hid (by rw [hw0]; exact (Below.refl _ _).drew)
    rw [← hw0]
    clear hw0
    have sT5 := T0.out.size
    refine wpAnyX_pass (C := (fun w' => ∃ q : Past w3, w' = q.v)) (some false) [true, false, true] rfl (by kernel_rfl) (fun _ _ t _ _ h => by cases t <;> exact h) ⟨fun _ => ⟨⟨w0, T0.out⟩, rfl⟩, fun _ => trivial⟩ ?_
    simp only [keepOps]
    repeat (go_big_quiet_step (fail))
    refine wpQuiet_nil ?_
    clear pp5x1x0
    clear pp5x1x1
    clear pp5x1x2
    clear pp5x1x3
    clear pp5x1x4
    clear pp5x2x0
    clear pp5x2x1
    clear pp5x2x2
    refine wpAnyX_two 1 8 rfl rfl (by kernel_rfl) (by kernel_rfl) ?_ ?_
    · skip
      go_wp2_with fail
      refine (toBench _ _ _ _ x0 _ (HAaB.out.below (HB5.out.trans (T0.out.mono HB5.out.size))) (by omega)).mono ?_
      rintro e wc5x1 ⟨v7x0, v7x1, v7x2, v7x3, bs7, rfl, ho5x1, -, hb5x1⟩
      obtain ⟨A5x1, d5x1, B5x1, e5x1, C5x1, f5x1, D5x1, g5x1, rfl, rfl, rfl, rfl⟩ := ho5x1.slices
      have HP5x1 := Lib.hid ho5x1
      clear ho5x1
      have T5x1 := Lib.hid (T0.out.trans (hb5x1.mono T0.out.size))
      have zz5x1 := hb5x1.size
      clear hb5x1
      try dsimp only
      go_wp2_with fail
      refine ⟨⟨fun _ => ⟨⟨wc5x1, T5x1.out⟩, rfl⟩, fun _ => trivial⟩, ?_⟩
      refine wpAnyX_two 3 8 rfl rfl (by kernel_rfl) (by kernel_rfl) ?_ ?_
      · skip
        go_wp2_with fail
        refine (toOp x1 _).mono ?_
        rintro e wc5x2 ⟨rfl, hb5x2⟩
        have T5x2 := Lib.hid (T5x1.out.trans (hb5x2.mono T5x1.out.size))
        have HP5x2y0 := Lib.hid (HP5x1.out.below hb5x2)
        have zz5x2 := hb5x2.size
        clear hb5x2
        try dsimp only
        go_wp2_with fail
        refine ⟨⟨fun _ => ⟨⟨wc5x2, T5x2.out⟩, rfl⟩, fun _ => trivial⟩, ?_⟩
        refine wpAnyX_two 4 8 rfl rfl (by kernel_rfl) (by kernel_rfl) ?_ ?_
        · skip
          go_wp2_with fail
          refine (spec_StepCount _ _ _ _ x0 x1 _ HP5x2y0.out.rd (by omega)).mono ?_
          rintro e wc5x3 ⟨v6x0, v6x1, v6x2, v6x3, bs6, rfl, ho6, lo6, hb5x3⟩
          obtain ⟨A6, d6, B6, e6, C6, f6, D6, g6, rfl, rfl, rfl, rfl⟩ := ho6.slices
          have HR5x3 := Lib.hid ho6
          have HL5x3 := Lib.hid lo6
          clear ho6 lo6
          have T5x3 := Lib.hid (T5x2.out.trans (hb5x3.mono T5x2.out.size))
          have HP5x3y0 := Lib.hid (HP5x2y0.out.below hb5x3)
          have zz5x3 := hb5x3.size
          clear hb5x3
          try dsimp only
          go_wp2_with fail
          refine ⟨⟨fun _ => ⟨⟨wc5x3, T5x3.out⟩, rfl⟩, fun _ => trivial⟩, ?_⟩
          refine wpAnyX_pass (C := (fun _ => True)) none [false, false, false, false, false, true, true, true] rfl (by kernel_rfl) (fun _ _ t _ _ h => by cases t <;> exact h) ⟨fun _ => ⟨⟨wc5x3, T5x3.out⟩, rfl⟩, fun _ => trivial⟩ ?_
          simp only [keepOps]
          repeat (go_big_quiet_step (fail))
          refine wpQuiet_nil ?_
          refine wpAnyX_one 8 rfl (by kernel_rfl) (by kernel_rfl) ?_
          go_wp2_with fail
          have sg5x4 := T5x3.out.size
          have HQ5 := HR5x3.out.lt
          obtain ⟨wc5x4, hw5x4⟩ : ∃ wA, wA = wc5x3.alloc (.cells #[.slice none 0 0, .slice none 0 0, .slice none 0 0, .slice none 0 0, .int .i64 0] 31) := ⟨_, rfl⟩
          have T5x4 : Hid (Below w3.heap.size w3 wc5x4) := Lib.hid (by rw [hw5x4]; exact T5x3.out.alloc T5x3.out.size _)
          have KB5x4 : Hid (Bk wc5x4 wc5x3.heap.size #[.slice none 0 0, .slice none 0 0, .slice none 0 0, .slice none 0 0, .int .i64 0] 31) := Lib.hid (by rw [hw5x4]; exact Bk.new _ _ _)
          have HR5x4 : Hid (OwnBn wc5x4 (.slice A6 (stepBn x0 x1).l.length d6) (.slice B6 (stepBn x0 x1).h.length e6) (.slice C6 (stepBn x0 x1).w.length f6) (.slice D6 (stepBn x0 x1).f.length g6) (stepBn x0 x1) bs6) := Lib.hid (by rw [hw5x4]; exact HR5x3.out.below ((Below.refl _ _).alloc (Nat.le_refl _) _))
          rw [← hw5x4]
          clear hw5x4
          refine ⟨⟨fun _ => ⟨⟨wc5x4, T5x4.out⟩, rfl⟩, fun _ => trivial⟩, ?_⟩
          refine wpAnyX_one 9 rfl (by kernel_rfl) (by kernel_rfl) ?_
          obtain ⟨⟨y0, y1, y2, y3, y4⟩, z0, z1, z2, z3, z4⟩ := five KB5x4.out
          have hkl := KB5x4.out.lt
          have htl := T5x4.out.size
          go_wp2_with fail
          have TS := Lib.hid (below_set5 T5x4.out (g := wc5x3.heap.size) (by omega) (.slice A6 (stepBn x0 x1).l.length d6) (.slice B6 (stepBn x0 x1).h.length e6) (.slice C6 (stepBn x0 x1).w.length f6) (.slice D6 (stepBn x0 x1).f.length g6) (.int .i64 (stepBn x0 x1).n))
          refine ⟨⟨fun _ => ⟨⟨_, TS.out⟩, rfl⟩, fun _ => trivial⟩, ?_⟩
          clear y0 y1 y2 y3 y4 z0 z1 z2 z3 z4
          refine wpAnyX_one 10 rfl (by kernel_rfl) (by kernel_rfl) ?_
          go_wp2_with fail
          refine ⟨⟨fun h => absurd (show true = false from h) (by decide), fun _ => trivial⟩, ?_⟩
          refine wpAnyX_done (by kernel_rfl) ?_
          try dsimp only
          go_wp2_with fail
          go_meet
          exact ⟨A6, d6, B6, e6, C6, f6, D6, g6, bs6, _, rfl, rfl, HR5x4.out.only (only_set5 _ wc5x3.heap.size (.slice A6 (stepBn x0 x1).l.length d6) (.slice B6 (stepBn x0 x1).h.length e6) (.slice C6 (stepBn x0 x1).w.length f6) (.slice D6 (stepBn x0 x1).f.length g6) (.int .i64 (stepBn x0 x1).n)) (fun y9 hy9 hm9 => by have := List.mem_singleton.1 hm9; have := HL5x3.out y9 hy9; have := HR5x4.out.lt y9 hy9; have := HQ5 y9 hy9; omega), fun y9 hy9 => by have := HL5x3.out y9 hy9; omega, KB5x4.out.set5 (.slice A6 (stepBn x0 x1).l.length d6) (.slice B6 (stepBn x0 x1).h.length e6) (.slice C6 (stepBn x0 x1).w.length f6) (.slice D6 (stepBn x0 x1).f.length g6) (.int .i64 (stepBn x0 x1).n), by omega, TS.out, fun hm9 => by have := HL5x3.out _ hm9; have := HR5x4.out.lt _ hm9; have := HQ5 _ hm9; omega⟩
        · skip
          go_wp2_with fail
          have sg5x5 := T5x2.out.size
          obtain ⟨wc5x5, hw5x5⟩ : ∃ wA, wA = wc5x2.alloc (.cells #[.slice none 0 0, .slice none 0 0, .slice none 0 0, .slice none 0 0, .int .i64 0] 31) := ⟨_, rfl⟩
          have T5x5 : Hid (Below w3.heap.size w3 wc5x5) := Lib.hid (by rw [hw5x5]; exact T5x2.out.alloc T5x2.out.size _)
          have KB5x5 : Hid (Bk wc5x5 wc5x2.heap.size #[.slice none 0 0, .slice none 0 0, .slice none 0 0, .slice none 0 0, .int .i64 0] 31) := Lib.hid (by rw [hw5x5]; exact Bk.new _ _ _)
          have hal5x5 : Below wc5x2.heap.size wc5x2 wc5x5 := by rw [hw5x5]; exact (Below.refl _ _).alloc (Nat.le_refl _) _
          have HP5x5y0 := Lib.hid (HP5x2y0.out.below hal5x5)
          have zz5x5 : wc5x5.heap.size = wc5x2.heap.size + 1 := by rw [hw5x5]; simp
          rw [← hw5x5]
          clear hw5x5 hal5x5
          refine ⟨⟨fun _ => ⟨⟨wc5x5, T5x5.out⟩, rfl⟩, fun _ => trivial⟩, ?_⟩
          refine wpAnyX_one 4 rfl (by kernel_rfl) (by kernel_rfl) ?_
          go_wp2_with fail
          refine (spec_StepCount _ _ _ _ x0 x1 _ HP5x5y0.out.rd (by omega)).mono ?_
          rintro e wc5x6 ⟨v6x0, v6x1, v6x2, v6x3, bs6, rfl, ho6, lo6, hb5x6⟩
          obtain ⟨A6, d6, B6, e6, C6, f6, D6, g6, rfl, rfl, rfl, rfl⟩ := ho6.slices
          have HR5x6 := Lib.hid ho6
          have HL5x6 := Lib.hid lo6
          clear ho6 lo6
          have T5x6 := Lib.hid (T5x5.out.trans (hb5x6.mono T5x5.out.size))
          have HP5x6y0 := Lib.hid (HP5x5y0.out.below hb5x6)
          have KB5x6 := Lib.hid (KB5x5.out.below hb5x6 KB5x5.out.lt)
          have zz5x6 := hb5x6.size
          clear hb5x6
          try dsimp only
          go_wp2_with fail
          refine ⟨⟨fun _ => ⟨⟨wc5x6, T5x6.out⟩, rfl⟩, fun _ => trivial⟩, ?_⟩
          refine wpAnyX_pass (C := (fun _ => True)) none [false, false, false, false, false, true, true, true] rfl (by kernel_rfl) (fun _ _ t _ _ h => by cases t <;> exact h) ⟨fun _ => ⟨⟨wc5x6, T5x6.out⟩, rfl⟩, fun _ => trivial⟩ ?_
          simp only [keepOps]
          repeat (go_big_quiet_step (fail))
          refine wpQuiet_nil ?_
          refine wpAnyX_one 9 rfl (by kernel_rfl) (by kernel_rfl) ?_
          obtain ⟨⟨y0, y1, y2, y3, y4⟩, z0, z1, z2, z3, z4⟩ := five KB5x6.out
          have hkl := KB5x6.out.lt
          have htl := T5x6.out.size
          go_wp2_with fail
          have TS := Lib.hid (below_set5 T5x6.out (g := wc5x2.heap.size) (by omega) (.slice A6 (stepBn x0 x1).l.length d6) (.slice B6 (stepBn x0 x1).h.length e6) (.slice C6 (stepBn x0 x1).w.length f6) (.slice D6 (stepBn x0 x1).f.length g6) (.int .i64 (stepBn x0 x1).n))
          refine ⟨⟨fun _ => ⟨⟨_, TS.out⟩, rfl⟩, fun _ => trivial⟩, ?_⟩
          clear y0 y1 y2 y3 y4 z0 z1 z2 z3 z4
          refine wpAnyX_one 10 rfl (by kernel_rfl) (by kernel_rfl) ?_
          go_wp2_with fail
          refine ⟨⟨fun h => absurd (show true = false from h) (by decide), fun _ => trivial⟩, ?_⟩
          refine wpAnyX_done (by kernel_rfl) ?_
          try dsimp only
          go_wp2_with fail
          go_meet
          exact ⟨A6, d6, B6, e6, C6, f6, D6, g6, bs6, _, rfl, rfl, HR5x6.out.only (only_set5 _ wc5x2.heap.size (.slice A6 (stepBn x0 x1).l.length d6) (.slice B6 (stepBn x0 x1).h.length e6) (.slice C6 (stepBn x0 x1).w.length f6) (.slice D6 (stepBn x0 x1).f.length g6) (.int .i64 (stepBn x0 x1).n)) (fun y9 hy9 hm9 => by have := List.mem_singleton.1 hm9; have := HL5x6.out y9 hy9; have := HR5x6.out.lt y9 hy9; omega), fun y9 hy9 => by have := HL5x6.out y9 hy9; omega, KB5x6.out.set5 (.slice A6 (stepBn x0 x1).l.length d6) (.slice B6 (stepBn x0 x1).h.length e6) (.slice C6 (stepBn x0 x1).w.length f6) (.slice D6 (stepBn x0 x1).f.length g6) (.int .i64 (stepBn x0 x1).n), by omega, TS.out, fun hm9 => by have := HL5x6.out _ hm9; have := HR5x6.out.lt _ hm9; omega⟩
      · skip
        go_wp2_with fail
        have sg5x7 := T5x1.out.size
        obtain ⟨wc5x7, hw5x7⟩ : ∃ wA, wA = wc5x1.alloc (.cells #[.slice none 0 0, .slice none 0 0, .slice none 0 0, .slice none 0 0, .int .i64 0] 31) := ⟨_, rfl⟩
        have T5x7 : Hid (Below w3.heap.size w3 wc5x7) := Lib.hid (by rw [hw5x7]; exact T5x1.out.alloc T5x1.out.size _)
        have KB5x7 : Hid (Bk wc5x7 wc5x1.heap.size #[.slice none 0 0, .slice none 0 0, .slice none 0 0, .slice none 0 0, .int .i64 0] 31) := Lib.hid (by rw [hw5x7]; exact Bk.new _ _ _)
        have hal5x7 : Below wc5x1.heap.size wc5x1 wc5x7 := by rw [hw5x7]; exact (Below.refl _ _).alloc (Nat.le_refl _) _
        have HP5x7y0 := Lib.hid (HP5x1.out.below hal5x7)
        have zz5x7 : wc5x7.heap.size = wc5x1.heap.size + 1 := by rw [hw5x7]; simp
        rw [← hw5x7]
        clear hw5x7 hal5x7
        refine ⟨⟨fun _ => ⟨⟨wc5x7, T5x7.out⟩, rfl⟩, fun _ => trivial⟩, ?_⟩
        refine wpAnyX_one 3 rfl (by kernel_rfl) (by kernel_rfl) ?_
        go_wp2_with fail
        refine (toOp x1 _).mono ?_
        rintro e wc5x8 ⟨rfl, hb5x8⟩
        have T5x8 := Lib.hid (T5x7.out.trans (hb5x8.mono T5x7.out.size))
        have HP5x8y0 := Lib.hid (HP5x7y0.out.below hb5x8)
        have KB5x8 := Lib.hid (KB5x7.out.below hb5x8 KB5x7.out.lt)
        have zz5x8 := hb5x8.size
        clear hb5x8
        try dsimp only
        go_wp2_with fail
        refine ⟨⟨fun _ => ⟨⟨wc5x8, T5x8.out⟩, rfl⟩, fun _ => trivial⟩, ?_⟩
        refine wpAnyX_one 4 rfl (by kernel_rfl) (by kernel_rfl) ?_
        go_wp2_with fail
        refine (spec_StepCount _ _ _ _ x0 x1 _ HP5x8y0.out.rd (by omega)).mono ?_
        rintro e wc5x9 ⟨v6x0, v6x1, v6x2, v6x3, bs6, rfl, ho6, lo6, hb5x9⟩
        obtain ⟨A6, d6, B6, e6, C6, f6, D6, g6, rfl, rfl, rfl, rfl⟩ := ho6.slices
        have HR5x9 := Lib.hid ho6
        have HL5x9 := Lib.hid lo6
        clear ho6 lo6
        have T5x9 := Lib.hid (T5x8.out.trans (hb5x9.mono T5x8.out.size))
        have HP5x9y0 := Lib.hid (HP5x8y0.out.below hb5x9)
        have KB5x9 := Lib.hid (KB5x8.out.below hb5x9 KB5x8.out.lt)
        have zz5x9 := hb5x9.size
        clear hb5x9
        try dsimp only
        go_wp2_with fail
        refine ⟨⟨fun _ => ⟨⟨wc5x9, T5x9.out⟩, rfl⟩, fun _ => trivial⟩, ?_⟩
        refine wpAnyX_pass (C := (fun _ => True)) none [false, false, false, false, false, true, true, true] rfl (by kernel_rfl) (fun _ _ t _ _ h => by cases t <;> exact h) ⟨fun _ => ⟨⟨wc5x9, T5x9.out⟩, rfl⟩, fun _ => trivial⟩ ?_
        simp only [keepOps]
        repeat (go_big_quiet_step (fail))
        refine wpQuiet_nil ?_
        refine wpAnyX_one 9 rfl (by kernel_rfl) (by kernel_rfl) ?_
        obtain ⟨⟨y0, y1, y2, y3, y4⟩, z0, z1, z2, z3, z4⟩ := five KB5x9.out
        have hkl := KB5x9.out.lt
        have htl := T5x9.out.size
        go_wp2_with fail
        have TS := Lib.hid (below_set5 T5x9.out (g := wc5x1.heap.size) (by omega) (.slice A6 (stepBn x0 x1).l.length d6) (.slice B6 (stepBn x0 x1).h.length e6) (.slice C6 (stepBn x0 x1).w.length f6) (.slice D6 (stepBn x0 x1).f.length g6) (.int .i64 (stepBn x0 x1).n))
        refine ⟨⟨fun _ => ⟨⟨_, TS.out⟩, rfl⟩, fun _ => trivial⟩, ?_⟩
        clear y0 y1 y2 y3 y4 z0 z1 z2 z3 z4
        refine wpAnyX_one 10 rfl (by kernel_rfl) (by kernel_rfl) ?_
        go_wp2_with fail
        refine ⟨⟨fun h => absurd (show true = false from h) (by decide), fun _ => trivial⟩, ?_⟩
        refine wpAnyX_done (by kernel_rfl) ?_
        try dsimp only
        go_wp2_with fail
        go_meet
        exact ⟨A6, d6, B6, e6, C6, f6, D6, g6, bs6, _, rfl, rfl, HR5x9.out.only (only_set5 _ wc5x1.heap.size (.slice A6 (stepBn x0 x1).l.length d6) (.slice B6 (stepBn x0 x1).h.length e6) (.slice C6 (stepBn x0 x1).w.length f6) (.slice D6 (stepBn x0 x1).f.length g6) (.int .i64 (stepBn x0 x1).n)) (fun y9 hy9 hm9 => by have := List.mem_singleton.1 hm9; have := HL5x9.out y9 hy9; have := HR5x9.out.lt y9 hy9; omega), fun y9 hy9 => by have := HL5x9.out y9 hy9; omega, KB5x9.out.set5 (.slice A6 (stepBn x0 x1).l.length d6) (.slice B6 (stepBn x0 x1).h.length e6) (.slice C6 (stepBn x0 x1).w.length f6) (.slice D6 (stepBn x0 x1).f.length g6) (.int .i64 (stepBn x0 x1).n), by omega, TS.out, fun hm9 => by have := HL5x9.out _ hm9; have := HR5x9.out.lt _ hm9; omega⟩
    · skip
      go_wp2_with fail
      have sg5x10 := T0.out.size
      obtain ⟨wc5x10, hw5x10⟩ : ∃ wA, wA = w0.alloc (.cells #[.slice none 0 0, .slice none 0 0, .slice none 0 0, .slice none 0 0, .int .i64 0] 31) := ⟨_, rfl⟩
      have T5x10 : Hid (Below w3.heap.size w3 wc5x10) := Lib.hid (by rw [hw5x10]; exact T0.out.alloc T0.out.size _)
      have KB5x10 : Hid (Bk wc5x10 w0.heap.size #[.slice none 0 0, .slice none 0 0, .slice none 0 0, .slice none 0 0, .int .i64 0] 31) := Lib.hid (by rw [hw5x10]; exact Bk.new _ _ _)
      have hal5x10 : Below w0.heap.size w0 wc5x10 := by rw [hw5x10]; exact (Below.refl _ _).alloc (Nat.le_refl _) _
      have zz5x10 : wc5x10.heap.size = w0.heap.size + 1 := by rw [hw5x10]; simp
      rw [← hw5x10]
      clear hw5x10 hal5x10
      refine ⟨⟨fun _ => ⟨⟨wc5x10, T5x10.out⟩, rfl⟩, fun _ => trivial⟩, ?_⟩
      refine wpAnyX_one 1 rfl (by kernel_rfl) (by kernel_rfl) ?_
      go_wp2_with fail
      refine (toBench _ _ _ _ x0 _ (HAaB.out.below (HB5.out.trans (T5x10.out.mono HB5.out.size))) (by omega)).mono ?_
      rintro e wc5x11 ⟨v8x0, v8x1, v8x2, v8x3, bs8, rfl, ho5x11, -, hb5x11⟩
      obtain ⟨A5x11, d5x11, B5x11, e5x11, C5x11, f5x11, D5x11, g5x11, rfl, rfl, rfl, rfl⟩ := ho5x11.slices
      have HP5x11 := Lib.hid ho5x11
      clear ho5x11
      have T5x11 := Lib.hid (T5x10.out.trans (hb5x11.mono T5x10.out.size))
      have KB5x11 := Lib.hid (KB5x10.out.below hb5x11 KB5x10.out.lt)
      have zz5x11 := hb5x11.size
      clear hb5x11
      try dsimp only
      go_wp2_with fail
      refine ⟨⟨fun _ => ⟨⟨wc5x11, T5x11.out⟩, rfl⟩, fun _ => trivial⟩, ?_⟩
      refine wpAnyX_one 3 rfl (by kernel_rfl) (by kernel_rfl) ?_
      go_wp2_with fail
      refine (toOp x1 _).mono ?_
      rintro e wc5x12 ⟨rfl, hb5x12⟩
      have T5x12 := Lib.hid (T5x11.out.trans (hb5x12.mono T5x11.out.size))
      have HP5x12y0 := Lib.hid (HP5x11.out.below hb5x12)
      have KB5x12 := Lib.hid (KB5x11.out.below hb5x12 KB5x11.out.lt)
      have zz5x12 := hb5x12.size
      clear hb5x12
      try dsimp only
      go_wp2_with fail
      refine ⟨⟨fun _ => ⟨⟨wc5x12, T5x12.out⟩, rfl⟩, fun _ => trivial⟩, ?_⟩
      refine wpAnyX_one 4 rfl (by kernel_rfl) (by kernel_rfl) ?_
      go_wp2_with fail
      refine (spec_StepCount _ _ _ _ x0 x1 _ HP5x12y0.out.rd (by omega)).mono ?_
      rintro e wc5x13 ⟨v6x0, v6x1, v6x2, v6x3, bs6, rfl, ho6, lo6, hb5x13⟩
      obtain ⟨A6, d6, B6, e6, C6, f6, D6, g6, rfl, rfl, rfl, rfl⟩ := ho6.slices
      have HR5x13 := Lib.hid ho6
      have HL5x13 := Lib.hid lo6
      clear ho6 lo6
      have T5x13 := Lib.hid (T5x12.out.trans (hb5x13.mono T5x12.out.size))
      have HP5x13y0 := Lib.hid (HP5x12y0.out.below hb5x13)
      have KB5x13 := Lib.hid (KB5x12.out.below hb5x13 KB5x12.out.lt)
      have zz5x13 := hb5x13.size
      clear hb5x13
      try dsimp only
      go_wp2_with fail
      refine ⟨⟨fun _ => ⟨⟨wc5x13, T5x13.out⟩, rfl⟩, fun _ => trivial⟩, ?_⟩
      refine wpAnyX_pass (C := (fun _ => True)) none [false, false, false, false, false, true, true, true] rfl (by kernel_rfl) (fun _ _ t _ _ h => by cases t <;> exact h) ⟨fun _ => ⟨⟨wc5x13, T5x13.out⟩, rfl⟩, fun _ => trivial⟩ ?_
      simp only [keepOps]
      repeat (go_big_quiet_step (fail))
      refine wpQuiet_nil ?_
      refine wpAnyX_one 9 rfl (by kernel_rfl) (by kernel_rfl) ?_
      obtain ⟨⟨y0, y1, y2, y3, y4⟩, z0, z1, z2, z3, z4⟩ := five KB5x13.out
      have hkl := KB5x13.out.lt
      have htl := T5x13.out.size
      go_wp2_with fail
      have TS := Lib.hid (below_set5 T5x13.out (g := w0.heap.size) (by omega) (.slice A6 (stepBn x0 x1).l.length d6) (.slice B6 (stepBn x0 x1).h.length e6) (.slice C6 (stepBn x0 x1).w.length f6) (.slice D6 (stepBn x0 x1).f.length g6) (.int .i64 (stepBn x0 x1).n))
      refine ⟨⟨fun _ => ⟨⟨_, TS.out⟩, rfl⟩, fun _ => trivial⟩, ?_⟩
      clear y0 y1 y2 y3 y4 z0 z1 z2 z3 z4
      refine wpAnyX_one 10 rfl (by kernel_rfl) (by kernel_rfl) ?_
      go_wp2_with fail
      refine ⟨⟨fun h => absurd (show true = false from h) (by decide), fun _ => trivial⟩, ?_⟩
      refine wpAnyX_done (by kernel_rfl) ?_
      try dsimp only
      go_wp2_with fail
      go_meet
      exact ⟨A6, d6, B6, e6, C6, f6, D6, g6, bs6, _, rfl, rfl, HR5x13.out.only (only_set5 _ w0.heap.size (.slice A6 (stepBn x0 x1).l.length d6) (.slice B6 (stepBn x0 x1).h.length e6) (.slice C6 (stepBn x0 x1).w.length f6) (.slice D6 (stepBn x0 x1).f.length g6) (.int .i64 (stepBn x0 x1).n)) (fun y9 hy9 hm9 => by have := List.mem_singleton.1 hm9; have := HL5x13.out y9 hy9; have := HR5x13.out.lt y9 hy9; omega), fun y9 hy9 => by have := HL5x13.out y9 hy9; omega, KB5x13.out.set5 (.slice A6 (stepBn x0 x1).l.length d6) (.slice B6 (stepBn x0 x1).h.length e6) (.slice C6 (stepBn x0 x1).w.length f6) (.slice D6 (stepBn x0 x1).f.length g6) (.int .i64 (stepBn x0 x1).n), by omega, TS.out, fun hm9 => by have := HL5x13.out _ hm9; have := HR5x13.out.lt _ hm9; omega⟩
  obtain ⟨A6, d6, B6, e6, C6, f6, D6, g6, bs6, gg5, rfl, rfl, ho6, lo6, kg5, hgl5, hBc5, ng5⟩ := hcut
  rename World => wc5
  have hgt5 := kg5.lt
  clear HB5 hrl5x1 hrl5x2
  clear l1 l2
  have sz9 := hBc5.size
  try simp only [World.size_alloc] at sz9
  have hB'''' := hB'''.trans (hBc5.mono hB'''.size)
  clear hB'''
  have k1''' := k1''.below hBc5 k1''.lt
  clear k1''
  have k2'' := k2'.below hBc5 k2'.lt
  clear k2'
  have hi6 := ho6.lt
  obtain ⟨hc1x0, gc1x0⟩ := k1'''.at_ 0 (x := .slice Aa0 x0.l.length da0) rfl
  obtain ⟨hc1x1, gc1x1⟩ := k1'''.at_ 1 (x := .slice Ba0 x0.h.length ea0) rfl
  obtain ⟨hc1x2, gc1x2⟩ := k1'''.at_ 2 (x := .slice Ca0 x0.w.length fa0) rfl
  obtain ⟨hc1x3, gc1x3⟩ := k1'''.at_ 3 (x := .slice Da0 x0.f.length ga0) rfl
  obtain ⟨hc1x4, gc1x4⟩ := k1'''.at_ 4 (x := .int .i64 x0.n) rfl
  have l1 := k1'''.lt
  obtain ⟨hc2x0, gc2x0⟩ := k2''.at_ 0 (x := .int .i64 x1.k) rfl
  obtain ⟨hc2x1, gc2x1⟩ := k2''.at_ 1 (x := .int .i64 x1.t) rfl
  obtain ⟨hc2x2, gc2x2⟩ := k2''.at_ 2 (x := .int .i64 x1.x) rfl
  have l2 := k2''.lt
  obtain ⟨hc5x0, gc5x0⟩ := kg5.at_ 0 (x := .slice A6 (stepBn x0 x1).l.length d6) rfl
  obtain ⟨hc5x1, gc5x1⟩ := kg5.at_ 1 (x := .slice B6 (stepBn x0 x1).h.length e6) rfl
  obtain ⟨hc5x2, gc5x2⟩ := kg5.at_ 2 (x := .slice C6 (stepBn x0 x1).w.length f6) rfl
  obtain ⟨hc5x3, gc5x3⟩ := kg5.at_ 3 (x := .slice D6 (stepBn x0 x1).f.length g6) rfl
  obtain ⟨hc5x4, gc5x4⟩ := kg5.at_ 4 (x := .int .i64 (stepBn x0 x1).n) rfl
  have l5 := kg5.lt
  go_wp2_with fail
  refine (toBench _ _ _ _ x0 _ (HAaB.out.below hB'''') (by omega)).mono ?_
  rintro e w10 ⟨v10x0, v10x1, v10x2, v10x3, bs10, rfl, ho10, lo10, hb10⟩
  clear hc1x0 gc1x0 hc1x1 gc1x1 hc1x2 gc1x2 hc1x3 gc1x3 hc1x4 gc1x4 l1 hc2x0 gc2x0 hc2x1 gc2x1 hc2x2 gc2x2 l2 hc5x0 gc5x0 hc5x1 gc5x1 hc5x2 gc5x2 hc5x3 gc5x3 hc5x4 gc5x4 l5
  have sz11 := hb10.size
  try simp only [World.size_alloc] at sz11
  have hB''''' := hB''''.trans (hb10.mono hB''''.size)
  clear hB''''
  have k1'''' := k1'''.below hb10 k1'''.lt
  clear k1'''
  have k2''' := k2''.below hb10 k2''.lt
  clear k2''
  have kg5' := kg5.below hb10 kg5.lt
  clear kg5
  have ho6' := ho6.below hb10
  clear ho6
  have hi10 := ho10.lt
  try simp only [World.size_alloc] at lo10
  obtain ⟨A10, d10, B10, e10, C10, f10, D10, g10, rfl, rfl, rfl, rfl⟩ := ho10.slices
  obtain ⟨hc1x0, gc1x0⟩ := k1''''.at_ 0 (x := .slice Aa0 x0.l.length da0) rfl
  obtain ⟨hc1x1, gc1x1⟩ := k1''''.at_ 1 (x := .slice Ba0 x0.h.length ea0) rfl
  obtain ⟨hc1x2, gc1x2⟩ := k1''''.at_ 2 (x := .slice Ca0 x0.w.length fa0) rfl
  obtain ⟨hc1x3, gc1x3⟩ := k1''''.at_ 3 (x := .slice Da0 x0.f.length ga0) rfl
  obtain ⟨hc1x4, gc1x4⟩ := k1''''.at_ 4 (x := .int .i64 x0.n) rfl
  have l1 := k1''''.lt
  obtain ⟨hc2x0, gc2x0⟩ := k2'''.at_ 0 (x := .int .i64 x1.k) rfl
  obtain ⟨hc2x1, gc2x1⟩ := k2'''.at_ 1 (x := .int .i64 x1.t) rfl
  obtain ⟨hc2x2, gc2x2⟩ := k2'''.at_ 2 (x := .int .i64 x1.x) rfl
  have l2 := k2'''.lt
  obtain ⟨hc5x0, gc5x0⟩ := kg5'.at_ 0 (x := .slice A6 (stepBn x0 x1).l.length d6) rfl
  obtain ⟨hc5x1, gc5x1⟩ := kg5'.at_ 1 (x := .slice B6 (stepBn x0 x1).h.length e6) rfl
  obtain ⟨hc5x2, gc5x2⟩ := kg5'.at_ 2 (x := .slice C6 (stepBn x0 x1).w.length f6) rfl
  obtain ⟨hc5x3, gc5x3⟩ := kg5'.at_ 3 (x := .slice D6 (stepBn x0 x1).f.length g6) rfl
  obtain ⟨hc5x4, gc5x4⟩ := kg5'.at_ 4 (x := .int .i64 (stepBn x0 x1).n) rfl
  have l5 := kg5'.lt
  go_wp2_with fail
  clear hc1x0 gc1x0 hc1x1 gc1x1 hc1x2 gc1x2 hc1x3 gc1x3 hc1x4 gc1x4 l1 hc2x0 gc2x0 hc2x1 gc2x1 hc2x2 gc2x2 l2 hc5x0 gc5x0 hc5x1 gc5x1 hc5x2 gc5x2 hc5x3 gc5x3 hc5x4 gc5x4 l5
  have k1''''' := k1''''.alloc (.cells #[.slice A10 x0.l.length d10, .slice B10 x0.h.length e10, .slice C10 x0.w.length f10, .slice D10 x0.f.length g10, .int .i64 x0.n] 31)
  clear k1''''
  have k2'''' := k2'''.alloc (.cells #[.slice A10 x0.l.length d10, .slice B10 x0.h.length e10, .slice C10 x0.w.length f10, .slice D10 x0.f.length g10, .int .i64 x0.n] 31)
  clear k2'''
  have kg5'' := kg5'.alloc (.cells #[.slice A10 x0.l.length d10, .slice B10 x0.h.length e10, .slice C10 x0.w.length f10, .slice D10 x0.f.length g10, .int .i64 x0.n] 31)
  clear kg5'
  have ho6'' := ho6'.below ((Below.refl _ _).alloc (Nat.le_refl _) (.cells #[.slice A10 x0.l.length d10, .slice B10 x0.h.length e10, .slice C10 x0.w.length f10, .slice D10 x0.f.length g10, .int .i64 x0.n] 31))
  clear ho6'
  have ho10' := ho10.below ((Below.refl _ _).alloc (Nat.le_refl _) (.cells #[.slice A10 x0.l.length d10, .slice B10 x0.h.length e10, .slice C10 x0.w.length f10, .slice D10 x0.f.length g10, .int .i64 x0.n] 31))
  clear ho10
  have hB'''''' := hB'''''.alloc hB'''''.size (.cells #[.slice A10 x0.l.length d10, .slice B10 x0.h.length e10, .slice C10 x0.w.length f10, .slice D10 x0.f.length g10, .int .i64 x0.n] 31)
  clear hB'''''
  have k12 := Bk.new w10 #[.slice A10 x0.l.length d10, .slice B10 x0.h.length e10, .slice C10 x0.w.length f10, .slice D10 x0.f.length g10, .int .i64 x0.n] 31
  obtain ⟨wq13, hwq13⟩ : ∃ wq, wq = (w10.alloc (.cells #[.slice A10 x0.l.length d10, .slice B10 x0.h.length e10, .slice C10 x0.w.length f10, .slice D10 x0.f.length g10, .int .i64 x0.n] 31)) := ⟨_, rfl⟩
  have szq13 : w10.heap.size + 1 ≤ wq13.heap.size := by rw [hwq13]; simp only [World.size_alloc]; omega
  rw [← hwq13] at hB'''''' k1''''' k2'''' kg5'' k12 ho6'' ho10' ⊢
  clear hwq13
  obtain ⟨hc1x0, gc1x0⟩ := k1'''''.at_ 0 (x := .slice Aa0 x0.l.length da0) rfl
  obtain ⟨hc1x1, gc1x1⟩ := k1'''''.at_ 1 (x := .slice Ba0 x0.h.length ea0) rfl
  obtain ⟨hc1x2, gc1x2⟩ := k1'''''.at_ 2 (x := .slice Ca0 x0.w.length fa0) rfl
  obtain ⟨hc1x3, gc1x3⟩ := k1'''''.at_ 3 (x := .slice Da0 x0.f.length ga0) rfl
  obtain ⟨hc1x4, gc1x4⟩ := k1'''''.at_ 4 (x := .int .i64 x0.n) rfl
  have l1 := k1'''''.lt
  obtain ⟨hc2x0, gc2x0⟩ := k2''''.at_ 0 (x := .int .i64 x1.k) rfl
  obtain ⟨hc2x1, gc2x1⟩ := k2''''.at_ 1 (x := .int .i64 x1.t) rfl
  obtain ⟨hc2x2, gc2x2⟩ := k2''''.at_ 2 (x := .int .i64 x1.x) rfl
  have l2 := k2''''.lt
  obtain ⟨hc5x0, gc5x0⟩ := kg5''.at_ 0 (x := .slice A6 (stepBn x0 x1).l.length d6) rfl
  obtain ⟨hc5x1, gc5x1⟩ := kg5''.at_ 1 (x := .slice B6 (stepBn x0 x1).h.length e6) rfl
  obtain ⟨hc5x2, gc5x2⟩ := kg5''.at_ 2 (x := .slice C6 (stepBn x0 x1).w.length f6) rfl
  obtain ⟨hc5x3, gc5x3⟩ := kg5''.at_ 3 (x := .slice D6 (stepBn x0 x1).f.length g6) rfl
  obtain ⟨hc5x4, gc5x4⟩ := kg5''.at_ 4 (x := .int .i64 (stepBn x0 x1).n) rfl
  have l5 := kg5''.lt
  obtain ⟨hc12x0, gc12x0⟩ := k12.at_ 0 (x := .slice A10 x0.l.length d10) rfl
  obtain ⟨hc12x1, gc12x1⟩ := k12.at_ 1 (x := .slice B10 x0.h.length e10) rfl
  obtain ⟨hc12x2, gc12x2⟩ := k12.at_ 2 (x := .slice C10 x0.w.length f10) rfl
  obtain ⟨hc12x3, gc12x3⟩ := k12.at_ 3 (x := .slice D10 x0.f.length g10) rfl
  obtain ⟨hc12x4, gc12x4⟩ := k12.at_ 4 (x := .int .i64 x0.n) rfl
  have l12 := k12.lt
  have hrl14x12 := k12.lt
  have hrl14x2 := k2''''.lt
  have pp14x12x0 := fun q : Past wq13 => Past.cell hrl14x12 hc12x0 q
  have pp14x12x1 := fun q : Past wq13 => Past.cell hrl14x12 hc12x1 q
  have pp14x12x2 := fun q : Past wq13 => Past.cell hrl14x12 hc12x2 q
  have pp14x12x3 := fun q : Past wq13 => Past.cell hrl14x12 hc12x3 q
  have pp14x12x4 := fun q : Past wq13 => Past.cell hrl14x12 hc12x4 q
  have pp14x2x0 := fun q : Past wq13 => Past.cell hrl14x2 hc2x0 q
  have pp14x2x1 := fun q : Past wq13 => Past.cell hrl14x2 hc2x1 q
  have pp14x2x2 := fun q : Past wq13 => Past.cell hrl14x2 hc2x2 q
  clear gc1x0
  clear gc1x1
  clear gc1x2
  clear gc1x3
  clear gc1x4
  clear gc2x0
  clear gc2x1
  clear gc2x2
  clear gc5x0
  clear gc5x1
  clear gc5x2
  clear gc5x3
  clear gc5x4
  clear gc12x0
  clear gc12x1
  clear gc12x2
  clear gc12x3
  clear gc12x4
  clear hc12x0
  clear hc12x1
  clear hc12x2
  clear hc12x3
  clear hc12x4
  clear hc2x0
  clear hc2x1
  clear hc2x2
  have HB14 := Lib.hid hB''''''
  go_cut [9, 10] (fun p14x0 p14x1 wz => ∃ (A15 : Option Addr) (d15 : Nat) (B15 : Option Addr) (e15 : Nat) (C15 : Option Addr) (f15 : Nat) (D15 : Option Addr) (g15 : Nat) (bs15 : List Nat) (gg14 : Nat), p14x0 = .pointer (some ⟨gg14, 0, none⟩) ∧ p14x1 = .int .i64 (stepR x0 x1) ∧ OwnBn wz (.slice A15 (stepBn x0 x1).l.length d15) (.slice B15 (stepBn x0 x1).h.length e15) (.slice C15 (stepBn x0 x1).w.length f15) (.slice D15 (stepBn x0 x1).f.length g15) (stepBn x0 x1) bs15 ∧ (∀ b ∈ bs15, wq13.heap.size ≤ b) ∧ Bk wz gg14 #[.slice A15 (stepBn x0 x1).l.length d15, .slice B15 (stepBn x0 x1).h.length e15, .slice C15 (stepBn x0 x1).w.length f15, .slice D15 (stepBn x0 x1).f.length g15, .int .i64 (stepBn x0 x1).n] 31 ∧ wq13.heap.size ≤ gg14 ∧ Below wq13.heap.size wq13 wz ∧ gg14 ∉ bs15)
  case first =>
    have HG14x0 := Lib.hid ho10'
    refine wp_region_two 9 9 (fun w' => ∃ q : Past wq13, w' = q.v) (fun _ => True) (by kernel_rfl) ?_
    obtain ⟨w0, hw0⟩ : ∃ w0, w0 = wq13.drew := ⟨_, rfl⟩
    have T0 : Hid (Below wq13.heap.size wq13 w0) := Lib.hid (by rw [hw0]; exact (Below.refl _ _).drew)
    rw [← hw0]
    clear hw0
    have sT14 := T0.out.size
    refine wpAnyX_pass (C := (fun w' => ∃ q : Past wq13, w' = q.v)) (some false) [true, true] rfl (by kernel_rfl) (fun _ _ t _ _ h => by cases t <;> exact h) ⟨fun _ => ⟨⟨w0, T0.out⟩, rfl⟩, fun _ => trivial⟩ ?_
    simp only [keepOps]
    repeat (go_big_quiet_step (fail))
    refine wpQuiet_nil ?_
    clear pp14x12x0
    clear pp14x12x1
    clear pp14x12x2
    clear pp14x12x3
    clear pp14x12x4
    clear pp14x2x0
    clear pp14x2x1
    clear pp14x2x2
    refine wpAnyX_two 2 7 rfl rfl (by kernel_rfl) (by kernel_rfl) ?_ ?_
    · skip
      go_wp2_with fail
      refine (toOp x1 _).mono ?_
      rintro e wc14x1 ⟨rfl, hb14x1⟩
      have T14x1 := Lib.hid (T0.out.trans (hb14x1.mono T0.out.size))
      have zz14x1 := hb14x1.size
      clear hb14x1
      try dsimp only
      go_wp2_with fail
      refine ⟨⟨fun _ => ⟨⟨wc14x1, T14x1.out⟩, rfl⟩, fun _ => trivial⟩, ?_⟩
      refine wpAnyX_two 3 7 rfl rfl (by kernel_rfl) (by kernel_rfl) ?_ ?_
      · skip
        go_wp2_with fail
        refine (impl_StepCount _ _ _ _ x0 x1 _ (HG14x0.out.below T14x1.out).rd hS0 (by omega)).mono ?_
        rintro e wc14x2 ⟨v15x0, v15x1, v15x2, v15x3, bs15, rfl, ho15, lo15, hb14x2⟩
        obtain ⟨A15, d15, B15, e15, C15, f15, D15, g15, rfl, rfl, rfl, rfl⟩ := ho15.slices
        have HR14x2 := Lib.hid ho15
        have HL14x2 := Lib.hid lo15
        clear ho15 lo15
        have T14x2 := Lib.hid (T14x1.out.trans (hb14x2.mono T14x1.out.size))
        have zz14x2 := hb14x2.size
        clear hb14x2
        try dsimp only
        go_wp2_with fail
        refine ⟨⟨fun _ => ⟨⟨wc14x2, T14x2.out⟩, rfl⟩, fun _ => trivial⟩, ?_⟩
        refine wpAnyX_pass (C := (fun _ => True)) none [false, false, false, false, true, true, true] rfl (by kernel_rfl) (fun _ _ t _ _ h => by cases t <;> exact h) ⟨fun _ => ⟨⟨wc14x2, T14x2.out⟩, rfl⟩, fun _ => trivial⟩ ?_
        simp only [keepOps]
        repeat (go_big_quiet_step (fail))
        refine wpQuiet_nil ?_
        refine wpAnyX_one 7 rfl (by kernel_rfl) (by kernel_rfl) ?_
        go_wp2_with fail
        have sg14x3 := T14x2.out.size
        have HQ14 := HR14x2.out.lt
        obtain ⟨wc14x3, hw14x3⟩ : ∃ wA, wA = wc14x2.alloc (.cells #[.slice none 0 0, .slice none 0 0, .slice none 0 0, .slice none 0 0, .int .i64 0] 31) := ⟨_, rfl⟩
        have T14x3 : Hid (Below wq13.heap.size wq13 wc14x3) := Lib.hid (by rw [hw14x3]; exact T14x2.out.alloc T14x2.out.size _)
        have KB14x3 : Hid (Bk wc14x3 wc14x2.heap.size #[.slice none 0 0, .slice none 0 0, .slice none 0 0, .slice none 0 0, .int .i64 0] 31) := Lib.hid (by rw [hw14x3]; exact Bk.new _ _ _)
        have HR14x3 : Hid (OwnBn wc14x3 (.slice A15 (stepBn x0 x1).l.length d15) (.slice B15 (stepBn x0 x1).h.length e15) (.slice C15 (stepBn x0 x1).w.length f15) (.slice D15 (stepBn x0 x1).f.length g15) (stepBn x0 x1) bs15) := Lib.hid (by rw [hw14x3]; exact HR14x2.out.below ((Below.refl _ _).alloc (Nat.le_refl _) _))
        rw [← hw14x3]
        clear hw14x3
        refine ⟨⟨fun _ => ⟨⟨wc14x3, T14x3.out⟩, rfl⟩, fun _ => trivial⟩, ?_⟩
        refine wpAnyX_one 8 rfl (by kernel_rfl) (by kernel_rfl) ?_
        obtain ⟨⟨y0, y1, y2, y3, y4⟩, z0, z1, z2, z3, z4⟩ := five KB14x3.out
        have hkl := KB14x3.out.lt
        have htl := T14x3.out.size
        go_wp2_with fail
        have TS := Lib.hid (below_set5 T14x3.out (g := wc14x2.heap.size) (by omega) (.slice A15 (stepBn x0 x1).l.length d15) (.slice B15 (stepBn x0 x1).h.length e15) (.slice C15 (stepBn x0 x1).w.length f15) (.slice D15 (stepBn x0 x1).f.length g15) (.int .i64 (stepBn x0 x1).n))
        refine ⟨⟨fun _ => ⟨⟨_, TS.out⟩, rfl⟩, fun _ => trivial⟩, ?_⟩
        clear y0 y1 y2 y3 y4 z0 z1 z2 z3 z4
        refine wpAnyX_one 9 rfl (by kernel_rfl) (by kernel_rfl) ?_
        go_wp2_with fail
        refine ⟨⟨fun h => absurd (show true = false from h) (by decide), fun _ => trivial⟩, ?_⟩
        refine wpAnyX_done (by kernel_rfl) ?_
        try dsimp only
        go_wp2_with fail
        go_meet
        exact ⟨A15, d15, B15, e15, C15, f15, D15, g15, bs15, _, rfl, rfl, HR14x3.out.only (only_set5 _ wc14x2.heap.size (.slice A15 (stepBn x0 x1).l.length d15) (.slice B15 (stepBn x0 x1).h.length e15) (.slice C15 (stepBn x0 x1).w.length f15) (.slice D15 (stepBn x0 x1).f.length g15) (.int .i64 (stepBn x0 x1).n)) (fun y9 hy9 hm9 => by have := List.mem_singleton.1 hm9; have := HL14x2.out y9 hy9; have := HR14x3.out.lt y9 hy9; have := HQ14 y9 hy9; omega), fun y9 hy9 => by have := HL14x2.out y9 hy9; omega, KB14x3.out.set5 (.slice A15 (stepBn x0 x1).l.length d15) (.slice B15 (stepBn x0 x1).h.length e15) (.slice C15 (stepBn x0 x1).w.length f15) (.slice D15 (stepBn x0 x1).f.length g15) (.int .i64 (stepBn x0 x1).n), by omega, TS.out, fun hm9 => by have := HL14x2.out _ hm9; have := HR14x3.out.lt _ hm9; have := HQ14 _ hm9; omega⟩
      · skip
        go_wp2_with fail
        have sg14x4 := T14x1.out.size
        obtain ⟨wc14x4, hw14x4⟩ : ∃ wA, wA = wc14x1.alloc (.cells #[.slice none 0 0, .slice none 0 0, .slice none 0 0, .slice none 0 0, .int .i64 0] 31) := ⟨_, rfl⟩
        have T14x4 : Hid (Below wq13.heap.size wq13 wc14x4) := Lib.hid (by rw [hw14x4]; exact T14x1.out.alloc T14x1.out.size _)
        have KB14x4 : Hid (Bk wc14x4 wc14x1.heap.size #[.slice none 0 0, .slice none 0 0, .slice none 0 0, .slice none 0 0, .int .i64 0] 31) := Lib.hid (by rw [hw14x4]; exact Bk.new _ _ _)
        have hal14x4 : Below wc14x1.heap.size wc14x1 wc14x4 := by rw [hw14x4]; exact (Below.refl _ _).alloc (Nat.le_refl _) _
        have zz14x4 : wc14x4.heap.size = wc14x1.heap.size + 1 := by rw [hw14x4]; simp
        rw [← hw14x4]
        clear hw14x4 hal14x4
        refine ⟨⟨fun _ => ⟨⟨wc14x4, T14x4.out⟩, rfl⟩, fun _ => trivial⟩, ?_⟩
        refine wpAnyX_one 3 rfl (by kernel_rfl) (by kernel_rfl) ?_
        go_wp2_with fail
        refine (impl_StepCount _ _ _ _ x0 x1 _ (HG14x0.out.below T14x4.out).rd hS0 (by omega)).mono ?_
        rintro e wc14x5 ⟨v15x0, v15x1, v15x2, v15x3, bs15, rfl, ho15, lo15, hb14x5⟩
        obtain ⟨A15, d15, B15, e15, C15, f15, D15, g15, rfl, rfl, rfl, rfl⟩ := ho15.slices
        have HR14x5 := Lib.hid ho15
        have HL14x5 := Lib.hid lo15
        clear ho15 lo15
        have T14x5 := Lib.hid (T14x4.out.trans (hb14x5.mono T14x4.out.size))
        have KB14x5 := Lib.hid (KB14x4.out.below hb14x5 KB14x4.out.lt)
        have zz14x5 := hb14x5.size
        clear hb14x5
        try dsimp only
        go_wp2_with fail
        refine ⟨⟨fun _ => ⟨⟨wc14x5, T14x5.out⟩, rfl⟩, fun _ => trivial⟩, ?_⟩
        refine wpAnyX_pass (C := (fun _ => True)) none [false, false, false, false, true, true, true] rfl (by kernel_rfl) (fun _ _ t _ _ h => by cases t <;> exact h) ⟨fun _ => ⟨⟨wc14x5, T14x5.out⟩, rfl⟩, fun _ => trivial⟩ ?_
        simp only [keepOps]
        repeat (go_big_quiet_step (fail))
        refine wpQuiet_nil ?_
        refine wpAnyX_one 8 rfl (by kernel_rfl) (by kernel_rfl) ?_
        obtain ⟨⟨y0, y1, y2, y3, y4⟩, z0, z1, z2, z3, z4⟩ := five KB14x5.out
        have hkl := KB14x5.out.lt
        have htl := T14x5.out.size
        go_wp2_with fail
        have TS := Lib.hid (below_set5 T14x5.out (g := wc14x1.heap.size) (by omega) (.slice A15 (stepBn x0 x1).l.length d15) (.slice B15 (stepBn x0 x1).h.length e15) (.slice C15 (stepBn x0 x1).w.length f15) (.slice D15 (stepBn x0 x1).f.length g15) (.int .i64 (stepBn x0 x1).n))
        refine ⟨⟨fun _ => ⟨⟨_, TS.out⟩, rfl⟩, fun _ => trivial⟩, ?_⟩
        clear y0 y1 y2 y3 y4 z0 z1 z2 z3 z4
        refine wpAnyX_one 9 rfl (by kernel_rfl) (by kernel_rfl) ?_
        go_wp2_with fail
        refine ⟨⟨fun h => absurd (show true = false from h) (by decide), fun _ => trivial⟩, ?_⟩
        refine wpAnyX_done (by kernel_rfl) ?_
        try dsimp only
        go_wp2_with fail
        go_meet
        exact ⟨A15, d15, B15, e15, C15, f15, D15, g15, bs15, _, rfl, rfl, HR14x5.out.only (only_set5 _ wc14x1.heap.size (.slice A15 (stepBn x0 x1).l.length d15) (.slice B15 (stepBn x0 x1).h.length e15) (.slice C15 (stepBn x0 x1).w.length f15) (.slice D15 (stepBn x0 x1).f.length g15) (.int .i64 (stepBn x0 x1).n)) (fun y9 hy9 hm9 => by have := List.mem_singleton.1 hm9; have := HL14x5.out y9 hy9; have := HR14x5.out.lt y9 hy9; omega), fun y9 hy9 => by have := HL14x5.out y9 hy9; omega, KB14x5.out.set5 (.slice A15 (stepBn x0 x1).l.length d15) (.slice B15 (stepBn x0 x1).h.length e15) (.slice C15 (stepBn x0 x1).w.length f15) (.slice D15 (stepBn x0 x1).f.length g15) (.int .i64 (stepBn x0 x1).n), by omega, TS.out, fun hm9 => by have := HL14x5.out _ hm9; have := HR14x5.out.lt _ hm9; omega⟩
    · skip
      go_wp2_with fail
      have sg14x6 := T0.out.size
      obtain ⟨wc14x6, hw14x6⟩ : ∃ wA, wA = w0.alloc (.cells #[.slice none 0 0, .slice none 0 0, .slice none 0 0, .slice none 0 0, .int .i64 0] 31) := ⟨_, rfl⟩
      have T14x6 : Hid (Below wq13.heap.size wq13 wc14x6) := Lib.hid (by rw [hw14x6]; exact T0.out.alloc T0.out.size _)
      have KB14x6 : Hid (Bk wc14x6 w0.heap.size #[.slice none 0 0, .slice none 0 0, .slice none 0 0, .slice none 0 0, .int .i64 0] 31) := Lib.hid (by rw [hw14x6]; exact Bk.new _ _ _)
      have hal14x6 : Below w0.heap.size w0 wc14x6 := by rw [hw14x6]; exact (Below.refl _ _).alloc (Nat.le_refl _) _
      have zz14x6 : wc14x6.heap.size = w0.heap.size + 1 := by rw [hw14x6]; simp
      rw [← hw14x6]
      clear hw14x6 hal14x6
      refine ⟨⟨fun _ => ⟨⟨wc14x6, T14x6.out⟩, rfl⟩, fun _ => trivial⟩, ?_⟩
      refine wpAnyX_one 2 rfl (by kernel_rfl) (by kernel_rfl) ?_
      go_wp2_with fail
      refine (toOp x1 _).mono ?_
      rintro e wc14x7 ⟨rfl, hb14x7⟩
      have T14x7 := Lib.hid (T14x6.out.trans (hb14x7.mono T14x6.out.size))
      have KB14x7 := Lib.hid (KB14x6.out.below hb14x7 KB14x6.out.lt)
      have zz14x7 := hb14x7.size
      clear hb14x7
      try dsimp only
      go_wp2_with fail
      refine ⟨⟨fun _ => ⟨⟨wc14x7, T14x7.out⟩, rfl⟩, fun _ => trivial⟩, ?_⟩
      refine wpAnyX_one 3 rfl (by kernel_rfl) (by kernel_rfl) ?_
      go_wp2_with fail
      refine (impl_StepCount _ _ _ _ x0 x1 _ (HG14x0.out.below T14x7.out).rd hS0 (by omega)).mono ?_
      rintro e wc14x8 ⟨v15x0, v15x1, v15x2, v15x3, bs15, rfl, ho15, lo15, hb14x8⟩
      obtain ⟨A15, d15, B15, e15, C15, f15, D15, g15, rfl, rfl, rfl, rfl⟩ := ho15.slices
      have HR14x8 := Lib.hid ho15
      have HL14x8 := Lib.hid lo15
      clear ho15 lo15
      have T14x8 := Lib.hid (T14x7.out.trans (hb14x8.mono T14x7.out.size))
      have KB14x8 := Lib.hid (KB14x7.out.below hb14x8 KB14x7.out.lt)
      have zz14x8 := hb14x8.size
      clear hb14x8
      try dsimp only
      go_wp2_with fail
      refine ⟨⟨fun _ => ⟨⟨wc14x8, T14x8.out⟩, rfl⟩, fun _ => trivial⟩, ?_⟩
      refine wpAnyX_pass (C := (fun _ => True)) none [false, false, false, false, true, true, true] rfl (by kernel_rfl) (fun _ _ t _ _ h => by cases t <;> exact h) ⟨fun _ => ⟨⟨wc14x8, T14x8.out⟩, rfl⟩, fun _ => trivial⟩ ?_
      simp only [keepOps]
      repeat (go_big_quiet_step (fail))
      refine wpQuiet_nil ?_
      refine wpAnyX_one 8 rfl (by kernel_rfl) (by kernel_rfl) ?_
      obtain ⟨⟨y0, y1, y2, y3, y4⟩, z0, z1, z2, z3, z4⟩ := five KB14x8.out
      have hkl := KB14x8.out.lt
      have htl := T14x8.out.size
      go_wp2_with fail
      have TS := Lib.hid (below_set5 T14x8.out (g := w0.heap.size) (by omega) (.slice A15 (stepBn x0 x1).l.length d15) (.slice B15 (stepBn x0 x1).h.length e15) (.slice C15 (stepBn x0 x1).w.length f15) (.slice D15 (stepBn x0 x1).f.length g15) (.int .i64 (stepBn x0 x1).n))
      refine ⟨⟨fun _ => ⟨⟨_, TS.out⟩, rfl⟩, fun _ => trivial⟩, ?_⟩
      clear y0 y1 y2 y3 y4 z0 z1 z2 z3 z4
      refine wpAnyX_one 9 rfl (by kernel_rfl) (by kernel_rfl) ?_
      go_wp2_with fail
      refine ⟨⟨fun h => absurd (show true = false from h) (by decide), fun _ => trivial⟩, ?_⟩
      refine wpAnyX_done (by kernel_rfl) ?_
      try dsimp only
      go_wp2_with fail
      go_meet
      exact ⟨A15, d15, B15, e15, C15, f15, D15, g15, bs15, _, rfl, rfl, HR14x8.out.only (only_set5 _ w0.heap.size (.slice A15 (stepBn x0 x1).l.length d15) (.slice B15 (stepBn x0 x1).h.length e15) (.slice C15 (stepBn x0 x1).w.length f15) (.slice D15 (stepBn x0 x1).f.length g15) (.int .i64 (stepBn x0 x1).n)) (fun y9 hy9 hm9 => by have := List.mem_singleton.1 hm9; have := HL14x8.out y9 hy9; have := HR14x8.out.lt y9 hy9; omega), fun y9 hy9 => by have := HL14x8.out y9 hy9; omega, KB14x8.out.set5 (.slice A15 (stepBn x0 x1).l.length d15) (.slice B15 (stepBn x0 x1).h.length e15) (.slice C15 (stepBn x0 x1).w.length f15) (.slice D15 (stepBn x0 x1).f.length g15) (.int .i64 (stepBn x0 x1).n), by omega, TS.out, fun hm9 => by have := HL14x8.out _ hm9; have := HR14x8.out.lt _ hm9; omega⟩
  obtain ⟨A15, d15, B15, e15, C15, f15, D15, g15, bs15, gg14, rfl, rfl, ho15, lo15, kg14, hgl14, hBc14, ng14⟩ := hcut
  rename World => wc14
  have hgt14 := kg14.lt
  clear HB14 hrl14x12 hrl14x2
  clear hc1x0 hc1x1 hc1x2 hc1x3 hc1x4 l1 l2 hc5x0 hc5x1 hc5x2 hc5x3 hc5x4 l5 l12
  have sz16 := hBc14.size
  try simp only [World.size_alloc] at sz16
  have hB''''''' := hB''''''.trans (hBc14.mono hB''''''.size)
  clear hB''''''
  have k1'''''' := k1'''''.below hBc14 k1'''''.lt
  clear k1'''''
  have k2''''' := k2''''.below hBc14 k2''''.lt
  clear k2''''
  have kg5''' := kg5''.below hBc14 kg5''.lt
  clear kg5''
  have k12' := k12.below hBc14 k12.lt
  clear k12
  have ho6''' := ho6''.below hBc14
  clear ho6''
  have ho10'' := ho10'.below hBc14
  clear ho10'
  have hi15 := ho15.lt
  obtain ⟨hc1x0, gc1x0⟩ := k1''''''.at_ 0 (x := .slice Aa0 x0.l.length da0) rfl
  obtain ⟨hc1x1, gc1x1⟩ := k1''''''.at_ 1 (x := .slice Ba0 x0.h.length ea0) rfl
  obtain ⟨hc1x2, gc1x2⟩ := k1''''''.at_ 2 (x := .slice Ca0 x0.w.length fa0) rfl
  obtain ⟨hc1x3, gc1x3⟩ := k1''''''.at_ 3 (x := .slice Da0 x0.f.length ga0) rfl
  obtain ⟨hc1x4, gc1x4⟩ := k1''''''.at_ 4 (x := .int .i64 x0.n) rfl
  have l1 := k1''''''.lt
  obtain ⟨hc2x0, gc2x0⟩ := k2'''''.at_ 0 (x := .int .i64 x1.k) rfl
  obtain ⟨hc2x1, gc2x1⟩ := k2'''''.at_ 1 (x := .int .i64 x1.t) rfl
  obtain ⟨hc2x2, gc2x2⟩ := k2'''''.at_ 2 (x := .int .i64 x1.x) rfl
  have l2 := k2'''''.lt
  obtain ⟨hc5x0, gc5x0⟩ := kg5'''.at_ 0 (x := .slice A6 (stepBn x0 x1).l.length d6) rfl
  obtain ⟨hc5x1, gc5x1⟩ := kg5'''.at_ 1 (x := .slice B6 (stepBn x0 x1).h.length e6) rfl
  obtain ⟨hc5x2, gc5x2⟩ := kg5'''.at_ 2 (x := .slice C6 (stepBn x0 x1).w.length f6) rfl
  obtain ⟨hc5x3, gc5x3⟩ := kg5'''.at_ 3 (x := .slice D6 (stepBn x0 x1).f.length g6) rfl
  obtain ⟨hc5x4, gc5x4⟩ := kg5'''.at_ 4 (x := .int .i64 (stepBn x0 x1).n) rfl
  have l5 := kg5'''.lt
  obtain ⟨hc12x0, gc12x0⟩ := k12'.at_ 0 (x := .slice A10 x0.l.length d10) rfl
  obtain ⟨hc12x1, gc12x1⟩ := k12'.at_ 1 (x := .slice B10 x0.h.length e10) rfl
  obtain ⟨hc12x2, gc12x2⟩ := k12'.at_ 2 (x := .slice C10 x0.w.length f10) rfl
  obtain ⟨hc12x3, gc12x3⟩ := k12'.at_ 3 (x := .slice D10 x0.f.length g10) rfl
  obtain ⟨hc12x4, gc12x4⟩ := k12'.at_ 4 (x := .int .i64 x0.n) rfl
  have l12 := k12'.lt
  obtain ⟨hc14x0, gc14x0⟩ := kg14.at_ 0 (x := .slice A15 (stepBn x0 x1).l.length d15) rfl
  obtain ⟨hc14x1, gc14x1⟩ := kg14.at_ 1 (x := .slice B15 (stepBn x0 x1).h.length e15) rfl
  obtain ⟨hc14x2, gc14x2⟩ := kg14.at_ 2 (x := .slice C15 (stepBn x0 x1).w.length f15) rfl
  obtain ⟨hc14x3, gc14x3⟩ := kg14.at_ 3 (x := .slice D15 (stepBn x0 x1).f.length g15) rfl
  obtain ⟨hc14x4, gc14x4⟩ := kg14.at_ 4 (x := .int .i64 (stepBn x0 x1).n) rfl
  have l14 := kg14.lt
  go_wp2_with fail
  refine (eqBench _ _ _ _ _ _ _ _ ((stepBn x0 x1)) ((stepBn x0 x1)) _ ho15.rd ho6'''.rd).mono ?_
  rintro e w17 ⟨rfl, hb17⟩
  rw [decide_eq_true rfl]
  clear hc1x0 gc1x0 hc1x1 gc1x1 hc1x2 gc1x2 hc1x3 gc1x3 hc1x4 gc1x4 l1 hc2x0 gc2x0 hc2x1 gc2x1 hc2x2 gc2x2 l2 hc5x0 gc5x0 hc5x1 gc5x1 hc5x2 gc5x2 hc5x3 gc5x3 hc5x4 gc5x4 l5 hc12x0 gc12x0 hc12x1 gc12x1 hc12x2 gc12x2 hc12x3 gc12x3 hc12x4 gc12x4 l12 hc14x0 gc14x0 hc14x1 gc14x1 hc14x2 gc14x2 hc14x3 gc14x3 hc14x4 gc14x4 l14
  have sz18 := hb17.size
  try simp only [World.size_alloc] at sz18
  have hB'''''''' := hB'''''''.trans (hb17.mono hB'''''''.size)
  clear hB'''''''
  have k1''''''' := k1''''''.below hb17 k1''''''.lt
  clear k1''''''
  have k2'''''' := k2'''''.below hb17 k2'''''.lt
  clear k2'''''
  have kg5'''' := kg5'''.below hb17 kg5'''.lt
  clear kg5'''
  have k12'' := k12'.below hb17 k12'.lt
  clear k12'
  have kg14' := kg14.below hb17 kg14.lt
  clear kg14
  have ho6'''' := ho6'''.below hb17
  clear ho6'''
  have ho10''' := ho10''.below hb17
  clear ho10''
  have ho15' := ho15.below hb17
  clear ho15
  obtain ⟨hc1x0, gc1x0⟩ := k1'''''''.at_ 0 (x := .slice Aa0 x0.l.length da0) rfl
  obtain ⟨hc1x1, gc1x1⟩ := k1'''''''.at_ 1 (x := .slice Ba0 x0.h.length ea0) rfl
  obtain ⟨hc1x2, gc1x2⟩ := k1'''''''.at_ 2 (x := .slice Ca0 x0.w.length fa0) rfl
  obtain ⟨hc1x3, gc1x3⟩ := k1'''''''.at_ 3 (x := .slice Da0 x0.f.length ga0) rfl
  obtain ⟨hc1x4, gc1x4⟩ := k1'''''''.at_ 4 (x := .int .i64 x0.n) rfl
  have l1 := k1'''''''.lt
  obtain ⟨hc2x0, gc2x0⟩ := k2''''''.at_ 0 (x := .int .i64 x1.k) rfl
  obtain ⟨hc2x1, gc2x1⟩ := k2''''''.at_ 1 (x := .int .i64 x1.t) rfl
  obtain ⟨hc2x2, gc2x2⟩ := k2''''''.at_ 2 (x := .int .i64 x1.x) rfl
  have l2 := k2''''''.lt
  obtain ⟨hc5x0, gc5x0⟩ := kg5''''.at_ 0 (x := .slice A6 (stepBn x0 x1).l.length d6) rfl
  obtain ⟨hc5x1, gc5x1⟩ := kg5''''.at_ 1 (x := .slice B6 (stepBn x0 x1).h.length e6) rfl
  obtain ⟨hc5x2, gc5x2⟩ := kg5''''.at_ 2 (x := .slice C6 (stepBn x0 x1).w.length f6) rfl
  obtain ⟨hc5x3, gc5x3⟩ := kg5''''.at_ 3 (x := .slice D6 (stepBn x0 x1).f.length g6) rfl
  obtain ⟨hc5x4, gc5x4⟩ := kg5''''.at_ 4 (x := .int .i64 (stepBn x0 x1).n) rfl
  have l5 := kg5''''.lt
  obtain ⟨hc12x0, gc12x0⟩ := k12''.at_ 0 (x := .slice A10 x0.l.length d10) rfl
  obtain ⟨hc12x1, gc12x1⟩ := k12''.at_ 1 (x := .slice B10 x0.h.length e10) rfl
  obtain ⟨hc12x2, gc12x2⟩ := k12''.at_ 2 (x := .slice C10 x0.w.length f10) rfl
  obtain ⟨hc12x3, gc12x3⟩ := k12''.at_ 3 (x := .slice D10 x0.f.length g10) rfl
  obtain ⟨hc12x4, gc12x4⟩ := k12''.at_ 4 (x := .int .i64 x0.n) rfl
  have l12 := k12''.lt
  obtain ⟨hc14x0, gc14x0⟩ := kg14'.at_ 0 (x := .slice A15 (stepBn x0 x1).l.length d15) rfl
  obtain ⟨hc14x1, gc14x1⟩ := kg14'.at_ 1 (x := .slice B15 (stepBn x0 x1).h.length e15) rfl
  obtain ⟨hc14x2, gc14x2⟩ := kg14'.at_ 2 (x := .slice C15 (stepBn x0 x1).w.length f15) rfl
  obtain ⟨hc14x3, gc14x3⟩ := kg14'.at_ 3 (x := .slice D15 (stepBn x0 x1).f.length g15) rfl
  obtain ⟨hc14x4, gc14x4⟩ := kg14'.at_ 4 (x := .int .i64 (stepBn x0 x1).n) rfl
  have l14 := kg14'.lt
  go_wp2_with fail
  clear hc1x0 gc1x0 hc1x1 gc1x1 hc1x2 gc1x2 hc1x3 gc1x3 hc1x4 gc1x4 l1 hc2x0 gc2x0 hc2x1 gc2x1 hc2x2 gc2x2 l2 hc5x0 gc5x0 hc5x1 gc5x1 hc5x2 gc5x2 hc5x3 gc5x3 hc5x4 gc5x4 l5 hc12x0 gc12x0 hc12x1 gc12x1 hc12x2 gc12x2 hc12x3 gc12x3 hc12x4 gc12x4 l12 hc14x0 gc14x0 hc14x1 gc14x1 hc14x2 gc14x2 hc14x3 gc14x3 hc14x4 gc14x4 l14
  obtain ⟨hc1x0, gc1x0⟩ := k1'''''''.at_ 0 (x := .slice Aa0 x0.l.length da0) rfl
  obtain ⟨hc1x1, gc1x1⟩ := k1'''''''.at_ 1 (x := .slice Ba0 x0.h.length ea0) rfl
  obtain ⟨hc1x2, gc1x2⟩ := k1'''''''.at_ 2 (x := .slice Ca0 x0.w.length fa0) rfl
  obtain ⟨hc1x3, gc1x3⟩ := k1'''''''.at_ 3 (x := .slice Da0 x0.f.length ga0) rfl
  obtain ⟨hc1x4, gc1x4⟩ := k1'''''''.at_ 4 (x := .int .i64 x0.n) rfl
  have l1 := k1'''''''.lt
  obtain ⟨hc2x0, gc2x0⟩ := k2''''''.at_ 0 (x := .int .i64 x1.k) rfl
  obtain ⟨hc2x1, gc2x1⟩ := k2''''''.at_ 1 (x := .int .i64 x1.t) rfl
  obtain ⟨hc2x2, gc2x2⟩ := k2''''''.at_ 2 (x := .int .i64 x1.x) rfl
  have l2 := k2''''''.lt
  obtain ⟨hc5x0, gc5x0⟩ := kg5''''.at_ 0 (x := .slice A6 (stepBn x0 x1).l.length d6) rfl
  obtain ⟨hc5x1, gc5x1⟩ := kg5''''.at_ 1 (x := .slice B6 (stepBn x0 x1).h.length e6) rfl
  obtain ⟨hc5x2, gc5x2⟩ := kg5''''.at_ 2 (x := .slice C6 (stepBn x0 x1).w.length f6) rfl
  obtain ⟨hc5x3, gc5x3⟩ := kg5''''.at_ 3 (x := .slice D6 (stepBn x0 x1).f.length g6) rfl
  obtain ⟨hc5x4, gc5x4⟩ := kg5''''.at_ 4 (x := .int .i64 (stepBn x0 x1).n) rfl
  have l5 := kg5''''.lt
  obtain ⟨hc12x0, gc12x0⟩ := k12''.at_ 0 (x := .slice A10 x0.l.length d10) rfl
  obtain ⟨hc12x1, gc12x1⟩ := k12''.at_ 1 (x := .slice B10 x0.h.length e10) rfl
  obtain ⟨hc12x2, gc12x2⟩ := k12''.at_ 2 (x := .slice C10 x0.w.length f10) rfl
  obtain ⟨hc12x3, gc12x3⟩ := k12''.at_ 3 (x := .slice D10 x0.f.length g10) rfl
  obtain ⟨hc12x4, gc12x4⟩ := k12''.at_ 4 (x := .int .i64 x0.n) rfl
  have l12 := k12''.lt
  obtain ⟨hc14x0, gc14x0⟩ := kg14'.at_ 0 (x := .slice A15 (stepBn x0 x1).l.length d15) rfl
  obtain ⟨hc14x1, gc14x1⟩ := kg14'.at_ 1 (x := .slice B15 (stepBn x0 x1).h.length e15) rfl
  obtain ⟨hc14x2, gc14x2⟩ := kg14'.at_ 2 (x := .slice C15 (stepBn x0 x1).w.length f15) rfl
  obtain ⟨hc14x3, gc14x3⟩ := kg14'.at_ 3 (x := .slice D15 (stepBn x0 x1).f.length g15) rfl
  obtain ⟨hc14x4, gc14x4⟩ := kg14'.at_ 4 (x := .int .i64 (stepBn x0 x1).n) rfl
  have l14 := kg14'.lt
  have HS20 : Hid (∀ W : World, Below w17.heap.size w17 W → Below w17.heap.size w17 W ∧ W.cell? ⟨w10.heap.size, 0, none⟩ = some (.slice A10 x0.l.length d10) ∧ W.cell? ⟨w10.heap.size, 1, none⟩ = some (.slice B10 x0.h.length e10) ∧ W.cell? ⟨w10.heap.size, 2, none⟩ = some (.slice C10 x0.w.length f10) ∧ W.cell? ⟨w10.heap.size, 3, none⟩ = some (.slice D10 x0.f.length g10) ∧ W.cell? ⟨w10.heap.size, 4, none⟩ = some (.int .i64 x0.n) ∧ W.cell? ⟨w.heap.size, 0, none⟩ = some (.slice Aa0 x0.l.length da0) ∧ W.cell? ⟨w.heap.size, 1, none⟩ = some (.slice Ba0 x0.h.length ea0) ∧ W.cell? ⟨w.heap.size, 2, none⟩ = some (.slice Ca0 x0.w.length fa0) ∧ W.cell? ⟨w.heap.size, 3, none⟩ = some (.slice Da0 x0.f.length ga0) ∧ W.cell? ⟨w.heap.size, 4, none⟩ = some (.int .i64 x0.n)) := Lib.hid fun W hW => ⟨hW, (hW.cell (p := ⟨w10.heap.size, 0, none⟩) k12''.lt).trans hc12x0, (hW.cell (p := ⟨w10.heap.size, 1, none⟩) k12''.lt).trans hc12x1, (hW.cell (p := ⟨w10.heap.size, 2, none⟩) k12''.lt).trans hc12x2, (hW.cell (p := ⟨w10.heap.size, 3, none⟩) k12''.lt).trans hc12x3, (hW.cell (p := ⟨w10.heap.size, 4, none⟩) k12''.lt).trans hc12x4, (hW.cell (p := ⟨w.heap.size, 0, none⟩) k1'''''''.lt).trans hc1x0, (hW.cell (p := ⟨w.heap.size, 1, none⟩) k1'''''''.lt).trans hc1x1, (hW.cell (p := ⟨w.heap.size, 2, none⟩) k1'''''''.lt).trans hc1x2, (hW.cell (p := ⟨w.heap.size, 3, none⟩) k1'''''''.lt).trans hc1x3, (hW.cell (p := ⟨w.heap.size, 4, none⟩) k1'''''''.lt).trans hc1x4⟩
  have HhB________ := Lib.hid hB''''''''
  have Hho6____ := Lib.hid ho6''''
  have Hho10___ := Lib.hid ho10'''
  have Hho15_ := Lib.hid ho15'
  go_region_held3 (fun W => Below w17.heap.size w17 W ∧ W.cell? ⟨w10.heap.size, 0, none⟩ = some (.slice A10 x0.l.length d10) ∧ W.cell? ⟨w10.heap.size, 1, none⟩ = some (.slice B10 x0.h.length e10) ∧ W.cell? ⟨w10.heap.size, 2, none⟩ = some (.slice C10 x0.w.length f10) ∧ W.cell? ⟨w10.heap.size, 3, none⟩ = some (.slice D10 x0.f.length g10) ∧ W.cell? ⟨w10.heap.size, 4, none⟩ = some (.int .i64 x0.n) ∧ W.cell? ⟨w.heap.size, 0, none⟩ = some (.slice Aa0 x0.l.length da0) ∧ W.cell? ⟨w.heap.size, 1, none⟩ = some (.slice Ba0 x0.h.length ea0) ∧ W.cell? ⟨w.heap.size, 2, none⟩ = some (.slice Ca0 x0.w.length fa0) ∧ W.cell? ⟨w.heap.size, 3, none⟩ = some (.slice Da0 x0.f.length ga0) ∧ W.cell? ⟨w.heap.size, 4, none⟩ = some (.int .i64 x0.n)) (first | (exact HS20.out _ (Below.refl _ _).drew) | (exact HS20.out _ (by assumption)))
    (first
      | (go_at_call 11; have hS := ‹Below w17.heap.size w17 _ ∧ _›.1; refine (toBench _ _ _ _ x0 _ (HAaB.out.below (HhB________.out.trans (hS.mono HhB________.out.size))) (by omega)).mono ?_; rintro e wa19 ⟨vv0, vv1, vv2, vv3, bsw, rfl, how, low, hbw19⟩; have HO19 := Lib.hid how; clear how low; have hS20x0 := hS.trans (hbw19.mono hS.size); clear hS)
      | (go_at_call 14; have hS := ‹Below w17.heap.size w17 _ ∧ _›.1; refine (eqBench _ _ _ _ _ _ _ _ (x0) (x0) _ (Hho10___.out.below hS).rd HO19.out.rd).mono ?_; rintro e w19 ⟨rfl, hbe19⟩; have hS20x1 := hS.trans (hbe19.mono hS.size); clear hS))
  have hS20 := ‹Below w17.heap.size w17 _ ∧ _›.1
  clear HS20 HhB________ Hho6____ Hho10___ Hho15_
  clear hc1x0 gc1x0 hc1x1 gc1x1 hc1x2 gc1x2 hc1x3 gc1x3 hc1x4 gc1x4 l1 hc2x0 gc2x0 hc2x1 gc2x1 hc2x2 gc2x2 l2 hc5x0 gc5x0 hc5x1 gc5x1 hc5x2 gc5x2 hc5x3 gc5x3 hc5x4 gc5x4 l5 hc12x0 gc12x0 hc12x1 gc12x1 hc12x2 gc12x2 hc12x3 gc12x3 hc12x4 gc12x4 l12 hc14x0 gc14x0 hc14x1 gc14x1 hc14x2 gc14x2 hc14x3 gc14x3 hc14x4 gc14x4 l14
  have sz21 := hS20.size
  try simp only [World.size_alloc] at sz21
  have hB''''''''' := hB''''''''.trans (hS20.mono hB''''''''.size)
  clear hB''''''''
  have k1'''''''' := k1'''''''.below hS20 k1'''''''.lt
  clear k1'''''''
  have k2''''''' := k2''''''.below hS20 k2''''''.lt
  clear k2''''''
  have kg5''''' := kg5''''.below hS20 kg5''''.lt
  clear kg5''''
  have k12''' := k12''.below hS20 k12''.lt
  clear k12''
  have kg14'' := kg14'.below hS20 kg14'.lt
  clear kg14'
  have ho6''''' := ho6''''.below hS20
  clear ho6''''
  have ho10'''' := ho10'''.below hS20
  clear ho10'''
  have ho15'' := ho15'.below hS20
  clear ho15'
  clear hS20
  clear HO19
  obtain ⟨hc1x0, gc1x0⟩ := k1''''''''.at_ 0 (x := .slice Aa0 x0.l.length da0) rfl
  obtain ⟨hc1x1, gc1x1⟩ := k1''''''''.at_ 1 (x := .slice Ba0 x0.h.length ea0) rfl
  obtain ⟨hc1x2, gc1x2⟩ := k1''''''''.at_ 2 (x := .slice Ca0 x0.w.length fa0) rfl
  obtain ⟨hc1x3, gc1x3⟩ := k1''''''''.at_ 3 (x := .slice Da0 x0.f.length ga0) rfl
  obtain ⟨hc1x4, gc1x4⟩ := k1''''''''.at_ 4 (x := .int .i64 x0.n) rfl
  have l1 := k1''''''''.lt
  obtain ⟨hc2x0, gc2x0⟩ := k2'''''''.at_ 0 (x := .int .i64 x1.k) rfl
  obtain ⟨hc2x1, gc2x1⟩ := k2'''''''.at_ 1 (x := .int .i64 x1.t) rfl
  obtain ⟨hc2x2, gc2x2⟩ := k2'''''''.at_ 2 (x := .int .i64 x1.x) rfl
  have l2 := k2'''''''.lt
  obtain ⟨hc5x0, gc5x0⟩ := kg5'''''.at_ 0 (x := .slice A6 (stepBn x0 x1).l.length d6) rfl
  obtain ⟨hc5x1, gc5x1⟩ := kg5'''''.at_ 1 (x := .slice B6 (stepBn x0 x1).h.length e6) rfl
  obtain ⟨hc5x2, gc5x2⟩ := kg5'''''.at_ 2 (x := .slice C6 (stepBn x0 x1).w.length f6) rfl
  obtain ⟨hc5x3, gc5x3⟩ := kg5'''''.at_ 3 (x := .slice D6 (stepBn x0 x1).f.length g6) rfl
  obtain ⟨hc5x4, gc5x4⟩ := kg5'''''.at_ 4 (x := .int .i64 (stepBn x0 x1).n) rfl
  have l5 := kg5'''''.lt
  obtain ⟨hc12x0, gc12x0⟩ := k12'''.at_ 0 (x := .slice A10 x0.l.length d10) rfl
  obtain ⟨hc12x1, gc12x1⟩ := k12'''.at_ 1 (x := .slice B10 x0.h.length e10) rfl
  obtain ⟨hc12x2, gc12x2⟩ := k12'''.at_ 2 (x := .slice C10 x0.w.length f10) rfl
  obtain ⟨hc12x3, gc12x3⟩ := k12'''.at_ 3 (x := .slice D10 x0.f.length g10) rfl
  obtain ⟨hc12x4, gc12x4⟩ := k12'''.at_ 4 (x := .int .i64 x0.n) rfl
  have l12 := k12'''.lt
  obtain ⟨hc14x0, gc14x0⟩ := kg14''.at_ 0 (x := .slice A15 (stepBn x0 x1).l.length d15) rfl
  obtain ⟨hc14x1, gc14x1⟩ := kg14''.at_ 1 (x := .slice B15 (stepBn x0 x1).h.length e15) rfl
  obtain ⟨hc14x2, gc14x2⟩ := kg14''.at_ 2 (x := .slice C15 (stepBn x0 x1).w.length f15) rfl
  obtain ⟨hc14x3, gc14x3⟩ := kg14''.at_ 3 (x := .slice D15 (stepBn x0 x1).f.length g15) rfl
  obtain ⟨hc14x4, gc14x4⟩ := kg14''.at_ 4 (x := .int .i64 (stepBn x0 x1).n) rfl
  have l14 := kg14''.lt
  go_wp2_with fail
  refine (markBench _ _ _ _ x0 bs10 (1) _ ho10'''' (by omega) (by omega) (by omega)).mono ?_
  rintro e w22 ⟨rfl, hq22, hon22⟩
  clear hc1x0 gc1x0 hc1x1 gc1x1 hc1x2 gc1x2 hc1x3 gc1x3 hc1x4 gc1x4 l1 hc2x0 gc2x0 hc2x1 gc2x1 hc2x2 gc2x2 l2 hc5x0 gc5x0 hc5x1 gc5x1 hc5x2 gc5x2 hc5x3 gc5x3 hc5x4 gc5x4 l5 hc12x0 gc12x0 hc12x1 gc12x1 hc12x2 gc12x2 hc12x3 gc12x3 hc12x4 gc12x4 l12 hc14x0 gc14x0 hc14x1 gc14x1 hc14x2 gc14x2 hc14x3 gc14x3 hc14x4 gc14x4 l14
  have sz23 := hon22.size
  try simp only [World.size_alloc] at sz23
  have hB'''''''''' := hB'''''''''.trans (hon22.below hB'''''''''.size (fun b hb => by have := lo10 b hb; omega))
  clear hB'''''''''
  have k1''''''''' := k1''''''''.only hon22 (fun hm => by have := lo10 _ hm; have := hi10 _ hm; omega)
  clear k1''''''''
  have k2'''''''' := k2'''''''.only hon22 (fun hm => by have := lo10 _ hm; have := hi10 _ hm; omega)
  clear k2'''''''
  have kg5'''''' := kg5'''''.only hon22 (fun hm => by have := lo10 _ hm; have := hi10 _ hm; omega)
  clear kg5'''''
  have k12'''' := k12'''.only hon22 (fun hm => by have := lo10 _ hm; have := hi10 _ hm; omega)
  clear k12'''
  have kg14''' := kg14''.only hon22 (fun hm => by have := lo10 _ hm; have := hi10 _ hm; omega)
  clear kg14''
  have ho6'''''' := ho6'''''.only hon22 (fun b hb hm => by have := lo10 b hm; have := hi10 b hm; have := lo6 b hb; have := hi6 b hb; omega)
  clear ho6'''''
  have ho15''' := ho15''.only hon22 (fun b hb hm => by have := lo10 b hm; have := hi10 b hm; have := lo15 b hb; have := hi15 b hb; omega)
  clear ho15''
  obtain ⟨hc1x0, gc1x0⟩ := k1'''''''''.at_ 0 (x := .slice Aa0 x0.l.length da0) rfl
  obtain ⟨hc1x1, gc1x1⟩ := k1'''''''''.at_ 1 (x := .slice Ba0 x0.h.length ea0) rfl
  obtain ⟨hc1x2, gc1x2⟩ := k1'''''''''.at_ 2 (x := .slice Ca0 x0.w.length fa0) rfl
  obtain ⟨hc1x3, gc1x3⟩ := k1'''''''''.at_ 3 (x := .slice Da0 x0.f.length ga0) rfl
  obtain ⟨hc1x4, gc1x4⟩ := k1'''''''''.at_ 4 (x := .int .i64 x0.n) rfl
  have l1 := k1'''''''''.lt
  obtain ⟨hc2x0, gc2x0⟩ := k2''''''''.at_ 0 (x := .int .i64 x1.k) rfl
  obtain ⟨hc2x1, gc2x1⟩ := k2''''''''.at_ 1 (x := .int .i64 x1.t) rfl
  obtain ⟨hc2x2, gc2x2⟩ := k2''''''''.at_ 2 (x := .int .i64 x1.x) rfl
  have l2 := k2''''''''.lt
  obtain ⟨hc5x0, gc5x0⟩ := kg5''''''.at_ 0 (x := .slice A6 (stepBn x0 x1).l.length d6) rfl
  obtain ⟨hc5x1, gc5x1⟩ := kg5''''''.at_ 1 (x := .slice B6 (stepBn x0 x1).h.length e6) rfl
  obtain ⟨hc5x2, gc5x2⟩ := kg5''''''.at_ 2 (x := .slice C6 (stepBn x0 x1).w.length f6) rfl
  obtain ⟨hc5x3, gc5x3⟩ := kg5''''''.at_ 3 (x := .slice D6 (stepBn x0 x1).f.length g6) rfl
  obtain ⟨hc5x4, gc5x4⟩ := kg5''''''.at_ 4 (x := .int .i64 (stepBn x0 x1).n) rfl
  have l5 := kg5''''''.lt
  obtain ⟨hc12x0, gc12x0⟩ := k12''''.at_ 0 (x := .slice A10 x0.l.length d10) rfl
  obtain ⟨hc12x1, gc12x1⟩ := k12''''.at_ 1 (x := .slice B10 x0.h.length e10) rfl
  obtain ⟨hc12x2, gc12x2⟩ := k12''''.at_ 2 (x := .slice C10 x0.w.length f10) rfl
  obtain ⟨hc12x3, gc12x3⟩ := k12''''.at_ 3 (x := .slice D10 x0.f.length g10) rfl
  obtain ⟨hc12x4, gc12x4⟩ := k12''''.at_ 4 (x := .int .i64 x0.n) rfl
  have l12 := k12''''.lt
  obtain ⟨hc14x0, gc14x0⟩ := kg14'''.at_ 0 (x := .slice A15 (stepBn x0 x1).l.length d15) rfl
  obtain ⟨hc14x1, gc14x1⟩ := kg14'''.at_ 1 (x := .slice B15 (stepBn x0 x1).h.length e15) rfl
  obtain ⟨hc14x2, gc14x2⟩ := kg14'''.at_ 2 (x := .slice C15 (stepBn x0 x1).w.length f15) rfl
  obtain ⟨hc14x3, gc14x3⟩ := kg14'''.at_ 3 (x := .slice D15 (stepBn x0 x1).f.length g15) rfl
  obtain ⟨hc14x4, gc14x4⟩ := kg14'''.at_ 4 (x := .int .i64 (stepBn x0 x1).n) rfl
  have l14 := kg14'''.lt
  go_wp2_with fail
  refine (eqBench _ _ _ _ _ _ _ _ ((stepBn x0 x1)) ((stepBn x0 x1)) _ ho15'''.rd ho6''''''.rd).mono ?_
  rintro e w24 ⟨rfl, hb24⟩
  rw [decide_eq_true rfl]
  clear hc1x0 gc1x0 hc1x1 gc1x1 hc1x2 gc1x2 hc1x3 gc1x3 hc1x4 gc1x4 l1 hc2x0 gc2x0 hc2x1 gc2x1 hc2x2 gc2x2 l2 hc5x0 gc5x0 hc5x1 gc5x1 hc5x2 gc5x2 hc5x3 gc5x3 hc5x4 gc5x4 l5 hc12x0 gc12x0 hc12x1 gc12x1 hc12x2 gc12x2 hc12x3 gc12x3 hc12x4 gc12x4 l12 hc14x0 gc14x0 hc14x1 gc14x1 hc14x2 gc14x2 hc14x3 gc14x3 hc14x4 gc14x4 l14
  have sz25 := hb24.size
  try simp only [World.size_alloc] at sz25
  have hB''''''''''' := hB''''''''''.trans (hb24.mono hB''''''''''.size)
  clear hB''''''''''
  have k1'''''''''' := k1'''''''''.below hb24 k1'''''''''.lt
  clear k1'''''''''
  have k2''''''''' := k2''''''''.below hb24 k2''''''''.lt
  clear k2''''''''
  have kg5''''''' := kg5''''''.below hb24 kg5''''''.lt
  clear kg5''''''
  have k12''''' := k12''''.below hb24 k12''''.lt
  clear k12''''
  have kg14'''' := kg14'''.below hb24 kg14'''.lt
  clear kg14'''
  have ho6''''''' := ho6''''''.below hb24
  clear ho6''''''
  have hq22' := hq22.below hb24
  clear hq22
  have ho15'''' := ho15'''.below hb24
  clear ho15'''
  obtain ⟨hc1x0, gc1x0⟩ := k1''''''''''.at_ 0 (x := .slice Aa0 x0.l.length da0) rfl
  obtain ⟨hc1x1, gc1x1⟩ := k1''''''''''.at_ 1 (x := .slice Ba0 x0.h.length ea0) rfl
  obtain ⟨hc1x2, gc1x2⟩ := k1''''''''''.at_ 2 (x := .slice Ca0 x0.w.length fa0) rfl
  obtain ⟨hc1x3, gc1x3⟩ := k1''''''''''.at_ 3 (x := .slice Da0 x0.f.length ga0) rfl
  obtain ⟨hc1x4, gc1x4⟩ := k1''''''''''.at_ 4 (x := .int .i64 x0.n) rfl
  have l1 := k1''''''''''.lt
  obtain ⟨hc2x0, gc2x0⟩ := k2'''''''''.at_ 0 (x := .int .i64 x1.k) rfl
  obtain ⟨hc2x1, gc2x1⟩ := k2'''''''''.at_ 1 (x := .int .i64 x1.t) rfl
  obtain ⟨hc2x2, gc2x2⟩ := k2'''''''''.at_ 2 (x := .int .i64 x1.x) rfl
  have l2 := k2'''''''''.lt
  obtain ⟨hc5x0, gc5x0⟩ := kg5'''''''.at_ 0 (x := .slice A6 (stepBn x0 x1).l.length d6) rfl
  obtain ⟨hc5x1, gc5x1⟩ := kg5'''''''.at_ 1 (x := .slice B6 (stepBn x0 x1).h.length e6) rfl
  obtain ⟨hc5x2, gc5x2⟩ := kg5'''''''.at_ 2 (x := .slice C6 (stepBn x0 x1).w.length f6) rfl
  obtain ⟨hc5x3, gc5x3⟩ := kg5'''''''.at_ 3 (x := .slice D6 (stepBn x0 x1).f.length g6) rfl
  obtain ⟨hc5x4, gc5x4⟩ := kg5'''''''.at_ 4 (x := .int .i64 (stepBn x0 x1).n) rfl
  have l5 := kg5'''''''.lt
  obtain ⟨hc12x0, gc12x0⟩ := k12'''''.at_ 0 (x := .slice A10 x0.l.length d10) rfl
  obtain ⟨hc12x1, gc12x1⟩ := k12'''''.at_ 1 (x := .slice B10 x0.h.length e10) rfl
  obtain ⟨hc12x2, gc12x2⟩ := k12'''''.at_ 2 (x := .slice C10 x0.w.length f10) rfl
  obtain ⟨hc12x3, gc12x3⟩ := k12'''''.at_ 3 (x := .slice D10 x0.f.length g10) rfl
  obtain ⟨hc12x4, gc12x4⟩ := k12'''''.at_ 4 (x := .int .i64 x0.n) rfl
  have l12 := k12'''''.lt
  obtain ⟨hc14x0, gc14x0⟩ := kg14''''.at_ 0 (x := .slice A15 (stepBn x0 x1).l.length d15) rfl
  obtain ⟨hc14x1, gc14x1⟩ := kg14''''.at_ 1 (x := .slice B15 (stepBn x0 x1).h.length e15) rfl
  obtain ⟨hc14x2, gc14x2⟩ := kg14''''.at_ 2 (x := .slice C15 (stepBn x0 x1).w.length f15) rfl
  obtain ⟨hc14x3, gc14x3⟩ := kg14''''.at_ 3 (x := .slice D15 (stepBn x0 x1).f.length g15) rfl
  obtain ⟨hc14x4, gc14x4⟩ := kg14''''.at_ 4 (x := .int .i64 (stepBn x0 x1).n) rfl
  have l14 := kg14''''.lt
  go_wp2_with fail
  refine (markBench _ _ _ _ (stepBn x0 x1) bs15 (1) _ ho15'''' (by omega) (by omega) (by omega)).mono ?_
  rintro e w26 ⟨rfl, hq26, hon26⟩
  clear hc1x0 gc1x0 hc1x1 gc1x1 hc1x2 gc1x2 hc1x3 gc1x3 hc1x4 gc1x4 l1 hc2x0 gc2x0 hc2x1 gc2x1 hc2x2 gc2x2 l2 hc5x0 gc5x0 hc5x1 gc5x1 hc5x2 gc5x2 hc5x3 gc5x3 hc5x4 gc5x4 l5 hc12x0 gc12x0 hc12x1 gc12x1 hc12x2 gc12x2 hc12x3 gc12x3 hc12x4 gc12x4 l12 hc14x0 gc14x0 hc14x1 gc14x1 hc14x2 gc14x2 hc14x3 gc14x3 hc14x4 gc14x4 l14
  have sz27 := hon26.size
  try simp only [World.size_alloc] at sz27
  have hB'''''''''''' := hB'''''''''''.trans (hon26.below hB'''''''''''.size (fun b hb => by have := lo15 b hb; omega))
  clear hB'''''''''''
  have k1''''''''''' := k1''''''''''.only hon26 (fun hm => by have := lo15 _ hm; have := hi15 _ hm; omega)
  clear k1''''''''''
  have k2'''''''''' := k2'''''''''.only hon26 (fun hm => by have := lo15 _ hm; have := hi15 _ hm; omega)
  clear k2'''''''''
  have kg5'''''''' := kg5'''''''.only hon26 (fun hm => by have := lo15 _ hm; have := hi15 _ hm; omega)
  clear kg5'''''''
  have k12'''''' := k12'''''.only hon26 (fun hm => by have := lo15 _ hm; have := hi15 _ hm; omega)
  clear k12'''''
  have kg14''''' := kg14''''.only hon26 ng14
  clear kg14''''
  have ho6'''''''' := ho6'''''''.only hon26 (fun b hb hm => by have := lo15 b hm; have := hi15 b hm; have := lo6 b hb; have := hi6 b hb; omega)
  clear ho6'''''''
  have hq22'' := hq22'.only hon26 (fun b hb hm => by have := lo15 b hm; have := hi15 b hm; have := lo10 b hb; have := hi10 b hb; omega)
  clear hq22'
  obtain ⟨hc1x0, gc1x0⟩ := k1'''''''''''.at_ 0 (x := .slice Aa0 x0.l.length da0) rfl
  obtain ⟨hc1x1, gc1x1⟩ := k1'''''''''''.at_ 1 (x := .slice Ba0 x0.h.length ea0) rfl
  obtain ⟨hc1x2, gc1x2⟩ := k1'''''''''''.at_ 2 (x := .slice Ca0 x0.w.length fa0) rfl
  obtain ⟨hc1x3, gc1x3⟩ := k1'''''''''''.at_ 3 (x := .slice Da0 x0.f.length ga0) rfl
  obtain ⟨hc1x4, gc1x4⟩ := k1'''''''''''.at_ 4 (x := .int .i64 x0.n) rfl
  have l1 := k1'''''''''''.lt
  obtain ⟨hc2x0, gc2x0⟩ := k2''''''''''.at_ 0 (x := .int .i64 x1.k) rfl
  obtain ⟨hc2x1, gc2x1⟩ := k2''''''''''.at_ 1 (x := .int .i64 x1.t) rfl
  obtain ⟨hc2x2, gc2x2⟩ := k2''''''''''.at_ 2 (x := .int .i64 x1.x) rfl
  have l2 := k2''''''''''.lt
  obtain ⟨hc5x0, gc5x0⟩ := kg5''''''''.at_ 0 (x := .slice A6 (stepBn x0 x1).l.length d6) rfl
  obtain ⟨hc5x1, gc5x1⟩ := kg5''''''''.at_ 1 (x := .slice B6 (stepBn x0 x1).h.length e6) rfl
  obtain ⟨hc5x2, gc5x2⟩ := kg5''''''''.at_ 2 (x := .slice C6 (stepBn x0 x1).w.length f6) rfl
  obtain ⟨hc5x3, gc5x3⟩ := kg5''''''''.at_ 3 (x := .slice D6 (stepBn x0 x1).f.length g6) rfl
  obtain ⟨hc5x4, gc5x4⟩ := kg5''''''''.at_ 4 (x := .int .i64 (stepBn x0 x1).n) rfl
  have l5 := kg5''''''''.lt
  obtain ⟨hc12x0, gc12x0⟩ := k12''''''.at_ 0 (x := .slice A10 x0.l.length d10) rfl
  obtain ⟨hc12x1, gc12x1⟩ := k12''''''.at_ 1 (x := .slice B10 x0.h.length e10) rfl
  obtain ⟨hc12x2, gc12x2⟩ := k12''''''.at_ 2 (x := .slice C10 x0.w.length f10) rfl
  obtain ⟨hc12x3, gc12x3⟩ := k12''''''.at_ 3 (x := .slice D10 x0.f.length g10) rfl
  obtain ⟨hc12x4, gc12x4⟩ := k12''''''.at_ 4 (x := .int .i64 x0.n) rfl
  have l12 := k12''''''.lt
  obtain ⟨hc14x0, gc14x0⟩ := kg14'''''.at_ 0 (x := .slice A15 (stepBn x0 x1).l.length d15) rfl
  obtain ⟨hc14x1, gc14x1⟩ := kg14'''''.at_ 1 (x := .slice B15 (stepBn x0 x1).h.length e15) rfl
  obtain ⟨hc14x2, gc14x2⟩ := kg14'''''.at_ 2 (x := .slice C15 (stepBn x0 x1).w.length f15) rfl
  obtain ⟨hc14x3, gc14x3⟩ := kg14'''''.at_ 3 (x := .slice D15 (stepBn x0 x1).f.length g15) rfl
  obtain ⟨hc14x4, gc14x4⟩ := kg14'''''.at_ 4 (x := .int .i64 (stepBn x0 x1).n) rfl
  have l14 := kg14'''''.lt
  go_wp2_with fail
  refine (heldBench _ _ _ _ (stepBn x0 x1) (1) _ hq26.rd (by omega) (by omega) (by omega)).mono ?_
  rintro e w28 ⟨rfl, hb28⟩
  clear hc1x0 gc1x0 hc1x1 gc1x1 hc1x2 gc1x2 hc1x3 gc1x3 hc1x4 gc1x4 l1 hc2x0 gc2x0 hc2x1 gc2x1 hc2x2 gc2x2 l2 hc5x0 gc5x0 hc5x1 gc5x1 hc5x2 gc5x2 hc5x3 gc5x3 hc5x4 gc5x4 l5 hc12x0 gc12x0 hc12x1 gc12x1 hc12x2 gc12x2 hc12x3 gc12x3 hc12x4 gc12x4 l12 hc14x0 gc14x0 hc14x1 gc14x1 hc14x2 gc14x2 hc14x3 gc14x3 hc14x4 gc14x4 l14
  have sz29 := hb28.size
  try simp only [World.size_alloc] at sz29
  have hB''''''''''''' := hB''''''''''''.trans (hb28.mono hB''''''''''''.size)
  clear hB''''''''''''
  have k1'''''''''''' := k1'''''''''''.below hb28 k1'''''''''''.lt
  clear k1'''''''''''
  have k2''''''''''' := k2''''''''''.below hb28 k2''''''''''.lt
  clear k2''''''''''
  have kg5''''''''' := kg5''''''''.below hb28 kg5''''''''.lt
  clear kg5''''''''
  have k12''''''' := k12''''''.below hb28 k12''''''.lt
  clear k12''''''
  have kg14'''''' := kg14'''''.below hb28 kg14'''''.lt
  clear kg14'''''
  have ho6''''''''' := ho6''''''''.below hb28
  clear ho6''''''''
  have hq22''' := hq22''.below hb28
  clear hq22''
  have hq26' := hq26.below hb28
  clear hq26
  obtain ⟨hc1x0, gc1x0⟩ := k1''''''''''''.at_ 0 (x := .slice Aa0 x0.l.length da0) rfl
  obtain ⟨hc1x1, gc1x1⟩ := k1''''''''''''.at_ 1 (x := .slice Ba0 x0.h.length ea0) rfl
  obtain ⟨hc1x2, gc1x2⟩ := k1''''''''''''.at_ 2 (x := .slice Ca0 x0.w.length fa0) rfl
  obtain ⟨hc1x3, gc1x3⟩ := k1''''''''''''.at_ 3 (x := .slice Da0 x0.f.length ga0) rfl
  obtain ⟨hc1x4, gc1x4⟩ := k1''''''''''''.at_ 4 (x := .int .i64 x0.n) rfl
  have l1 := k1''''''''''''.lt
  obtain ⟨hc2x0, gc2x0⟩ := k2'''''''''''.at_ 0 (x := .int .i64 x1.k) rfl
  obtain ⟨hc2x1, gc2x1⟩ := k2'''''''''''.at_ 1 (x := .int .i64 x1.t) rfl
  obtain ⟨hc2x2, gc2x2⟩ := k2'''''''''''.at_ 2 (x := .int .i64 x1.x) rfl
  have l2 := k2'''''''''''.lt
  obtain ⟨hc5x0, gc5x0⟩ := kg5'''''''''.at_ 0 (x := .slice A6 (stepBn x0 x1).l.length d6) rfl
  obtain ⟨hc5x1, gc5x1⟩ := kg5'''''''''.at_ 1 (x := .slice B6 (stepBn x0 x1).h.length e6) rfl
  obtain ⟨hc5x2, gc5x2⟩ := kg5'''''''''.at_ 2 (x := .slice C6 (stepBn x0 x1).w.length f6) rfl
  obtain ⟨hc5x3, gc5x3⟩ := kg5'''''''''.at_ 3 (x := .slice D6 (stepBn x0 x1).f.length g6) rfl
  obtain ⟨hc5x4, gc5x4⟩ := kg5'''''''''.at_ 4 (x := .int .i64 (stepBn x0 x1).n) rfl
  have l5 := kg5'''''''''.lt
  obtain ⟨hc12x0, gc12x0⟩ := k12'''''''.at_ 0 (x := .slice A10 x0.l.length d10) rfl
  obtain ⟨hc12x1, gc12x1⟩ := k12'''''''.at_ 1 (x := .slice B10 x0.h.length e10) rfl
  obtain ⟨hc12x2, gc12x2⟩ := k12'''''''.at_ 2 (x := .slice C10 x0.w.length f10) rfl
  obtain ⟨hc12x3, gc12x3⟩ := k12'''''''.at_ 3 (x := .slice D10 x0.f.length g10) rfl
  obtain ⟨hc12x4, gc12x4⟩ := k12'''''''.at_ 4 (x := .int .i64 x0.n) rfl
  have l12 := k12'''''''.lt
  obtain ⟨hc14x0, gc14x0⟩ := kg14''''''.at_ 0 (x := .slice A15 (stepBn x0 x1).l.length d15) rfl
  obtain ⟨hc14x1, gc14x1⟩ := kg14''''''.at_ 1 (x := .slice B15 (stepBn x0 x1).h.length e15) rfl
  obtain ⟨hc14x2, gc14x2⟩ := kg14''''''.at_ 2 (x := .slice C15 (stepBn x0 x1).w.length f15) rfl
  obtain ⟨hc14x3, gc14x3⟩ := kg14''''''.at_ 3 (x := .slice D15 (stepBn x0 x1).f.length g15) rfl
  obtain ⟨hc14x4, gc14x4⟩ := kg14''''''.at_ 4 (x := .int .i64 (stepBn x0 x1).n) rfl
  have l14 := kg14''''''.lt
  go_wp2_with fail
  clear hc1x0 gc1x0 hc1x1 gc1x1 hc1x2 gc1x2 hc1x3 gc1x3 hc1x4 gc1x4 l1 hc2x0 gc2x0 hc2x1 gc2x1 hc2x2 gc2x2 l2 hc5x0 gc5x0 hc5x1 gc5x1 hc5x2 gc5x2 hc5x3 gc5x3 hc5x4 gc5x4 l5 hc12x0 gc12x0 hc12x1 gc12x1 hc12x2 gc12x2 hc12x3 gc12x3 hc12x4 gc12x4 l12 hc14x0 gc14x0 hc14x1 gc14x1 hc14x2 gc14x2 hc14x3 gc14x3 hc14x4 gc14x4 l14
  obtain ⟨hc1x0, gc1x0⟩ := k1''''''''''''.at_ 0 (x := .slice Aa0 x0.l.length da0) rfl
  obtain ⟨hc1x1, gc1x1⟩ := k1''''''''''''.at_ 1 (x := .slice Ba0 x0.h.length ea0) rfl
  obtain ⟨hc1x2, gc1x2⟩ := k1''''''''''''.at_ 2 (x := .slice Ca0 x0.w.length fa0) rfl
  obtain ⟨hc1x3, gc1x3⟩ := k1''''''''''''.at_ 3 (x := .slice Da0 x0.f.length ga0) rfl
  obtain ⟨hc1x4, gc1x4⟩ := k1''''''''''''.at_ 4 (x := .int .i64 x0.n) rfl
  have l1 := k1''''''''''''.lt
  obtain ⟨hc2x0, gc2x0⟩ := k2'''''''''''.at_ 0 (x := .int .i64 x1.k) rfl
  obtain ⟨hc2x1, gc2x1⟩ := k2'''''''''''.at_ 1 (x := .int .i64 x1.t) rfl
  obtain ⟨hc2x2, gc2x2⟩ := k2'''''''''''.at_ 2 (x := .int .i64 x1.x) rfl
  have l2 := k2'''''''''''.lt
  obtain ⟨hc5x0, gc5x0⟩ := kg5'''''''''.at_ 0 (x := .slice A6 (stepBn x0 x1).l.length d6) rfl
  obtain ⟨hc5x1, gc5x1⟩ := kg5'''''''''.at_ 1 (x := .slice B6 (stepBn x0 x1).h.length e6) rfl
  obtain ⟨hc5x2, gc5x2⟩ := kg5'''''''''.at_ 2 (x := .slice C6 (stepBn x0 x1).w.length f6) rfl
  obtain ⟨hc5x3, gc5x3⟩ := kg5'''''''''.at_ 3 (x := .slice D6 (stepBn x0 x1).f.length g6) rfl
  obtain ⟨hc5x4, gc5x4⟩ := kg5'''''''''.at_ 4 (x := .int .i64 (stepBn x0 x1).n) rfl
  have l5 := kg5'''''''''.lt
  obtain ⟨hc12x0, gc12x0⟩ := k12'''''''.at_ 0 (x := .slice A10 x0.l.length d10) rfl
  obtain ⟨hc12x1, gc12x1⟩ := k12'''''''.at_ 1 (x := .slice B10 x0.h.length e10) rfl
  obtain ⟨hc12x2, gc12x2⟩ := k12'''''''.at_ 2 (x := .slice C10 x0.w.length f10) rfl
  obtain ⟨hc12x3, gc12x3⟩ := k12'''''''.at_ 3 (x := .slice D10 x0.f.length g10) rfl
  obtain ⟨hc12x4, gc12x4⟩ := k12'''''''.at_ 4 (x := .int .i64 x0.n) rfl
  have l12 := k12'''''''.lt
  obtain ⟨hc14x0, gc14x0⟩ := kg14''''''.at_ 0 (x := .slice A15 (stepBn x0 x1).l.length d15) rfl
  obtain ⟨hc14x1, gc14x1⟩ := kg14''''''.at_ 1 (x := .slice B15 (stepBn x0 x1).h.length e15) rfl
  obtain ⟨hc14x2, gc14x2⟩ := kg14''''''.at_ 2 (x := .slice C15 (stepBn x0 x1).w.length f15) rfl
  obtain ⟨hc14x3, gc14x3⟩ := kg14''''''.at_ 3 (x := .slice D15 (stepBn x0 x1).f.length g15) rfl
  obtain ⟨hc14x4, gc14x4⟩ := kg14''''''.at_ 4 (x := .int .i64 (stepBn x0 x1).n) rfl
  have l14 := kg14''''''.lt
  have hrl30x1 := k1''''''''''''.lt
  have hrl30x2 := k2'''''''''''.lt
  have pp30x1x0 := fun q : Past w28 => Past.cell hrl30x1 hc1x0 q
  have pp30x1x1 := fun q : Past w28 => Past.cell hrl30x1 hc1x1 q
  have pp30x1x2 := fun q : Past w28 => Past.cell hrl30x1 hc1x2 q
  have pp30x1x3 := fun q : Past w28 => Past.cell hrl30x1 hc1x3 q
  have pp30x1x4 := fun q : Past w28 => Past.cell hrl30x1 hc1x4 q
  have pp30x2x0 := fun q : Past w28 => Past.cell hrl30x2 hc2x0 q
  have pp30x2x1 := fun q : Past w28 => Past.cell hrl30x2 hc2x1 q
  have pp30x2x2 := fun q : Past w28 => Past.cell hrl30x2 hc2x2 q
  clear gc1x0
  clear gc1x1
  clear gc1x2
  clear gc1x3
  clear gc1x4
  clear gc2x0
  clear gc2x1
  clear gc2x2
  clear gc5x0
  clear gc5x1
  clear gc5x2
  clear gc5x3
  clear gc5x4
  clear gc12x0
  clear gc12x1
  clear gc12x2
  clear gc12x3
  clear gc12x4
  clear gc14x0
  clear gc14x1
  clear gc14x2
  clear gc14x3
  clear gc14x4
  clear hc1x0
  clear hc1x1
  clear hc1x2
  clear hc1x3
  clear hc1x4
  clear hc2x0
  clear hc2x1
  clear hc2x2
  have HB30 := Lib.hid hB'''''''''''''
  go_cut [14, 15] (fun p30x0 p30x1 wz => ∃ (A31 : Option Addr) (d31 : Nat) (B31 : Option Addr) (e31 : Nat) (C31 : Option Addr) (f31 : Nat) (D31 : Option Addr) (g31 : Nat) (bs31 : List Nat) (gg30 : Nat), p30x0 = .pointer (some ⟨gg30, 0, none⟩) ∧ p30x1 = .int .i64 (stepR x0 x1) ∧ OwnBn wz (.slice A31 (stepBn x0 x1).l.length d31) (.slice B31 (stepBn x0 x1).h.length e31) (.slice C31 (stepBn x0 x1).w.length f31) (.slice D31 (stepBn x0 x1).f.length g31) (stepBn x0 x1) bs31 ∧ (∀ b ∈ bs31, w28.heap.size ≤ b) ∧ Bk wz gg30 #[.slice A31 (stepBn x0 x1).l.length d31, .slice B31 (stepBn x0 x1).h.length e31, .slice C31 (stepBn x0 x1).w.length f31, .slice D31 (stepBn x0 x1).f.length g31, .int .i64 (stepBn x0 x1).n] 31 ∧ w28.heap.size ≤ gg30 ∧ Below w28.heap.size w28 wz ∧ gg30 ∉ bs31)
  case first =>
    refine wp_region_two 10 10 (fun w' => ∃ q : Past w28, w' = q.v) (fun _ => True) (by kernel_rfl) ?_
    obtain ⟨w0, hw0⟩ : ∃ w0, w0 = w28.drew := ⟨_, rfl⟩
    have T0 : Hid (Below w28.heap.size w28 w0) := Lib.hid (by rw [hw0]; exact (Below.refl _ _).drew)
    rw [← hw0]
    clear hw0
    have sT30 := T0.out.size
    refine wpAnyX_pass (C := (fun w' => ∃ q : Past w28, w' = q.v)) (some false) [true, false, true] rfl (by kernel_rfl) (fun _ _ t _ _ h => by cases t <;> exact h) ⟨fun _ => ⟨⟨w0, T0.out⟩, rfl⟩, fun _ => trivial⟩ ?_
    simp only [keepOps]
    repeat (go_big_quiet_step (fail))
    refine wpQuiet_nil ?_
    clear pp30x1x0
    clear pp30x1x1
    clear pp30x1x2
    clear pp30x1x3
    clear pp30x1x4
    clear pp30x2x0
    clear pp30x2x1
    clear pp30x2x2
    refine wpAnyX_two 1 8 rfl rfl (by kernel_rfl) (by kernel_rfl) ?_ ?_
    · skip
      go_wp2_with fail
      refine (toBench _ _ _ _ x0 _ (HAaB.out.below (HB30.out.trans (T0.out.mono HB30.out.size))) (by omega)).mono ?_
      rintro e wc30x1 ⟨v32x0, v32x1, v32x2, v32x3, bs32, rfl, ho30x1, -, hb30x1⟩
      obtain ⟨A30x1, d30x1, B30x1, e30x1, C30x1, f30x1, D30x1, g30x1, rfl, rfl, rfl, rfl⟩ := ho30x1.slices
      have HP30x1 := Lib.hid ho30x1
      clear ho30x1
      have T30x1 := Lib.hid (T0.out.trans (hb30x1.mono T0.out.size))
      have zz30x1 := hb30x1.size
      clear hb30x1
      try dsimp only
      go_wp2_with fail
      refine ⟨⟨fun _ => ⟨⟨wc30x1, T30x1.out⟩, rfl⟩, fun _ => trivial⟩, ?_⟩
      refine wpAnyX_two 3 8 rfl rfl (by kernel_rfl) (by kernel_rfl) ?_ ?_
      · skip
        go_wp2_with fail
        refine (toOp x1 _).mono ?_
        rintro e wc30x2 ⟨rfl, hb30x2⟩
        have T30x2 := Lib.hid (T30x1.out.trans (hb30x2.mono T30x1.out.size))
        have HP30x2y0 := Lib.hid (HP30x1.out.below hb30x2)
        have zz30x2 := hb30x2.size
        clear hb30x2
        try dsimp only
        go_wp2_with fail
        refine ⟨⟨fun _ => ⟨⟨wc30x2, T30x2.out⟩, rfl⟩, fun _ => trivial⟩, ?_⟩
        refine wpAnyX_two 4 8 rfl rfl (by kernel_rfl) (by kernel_rfl) ?_ ?_
        · skip
          go_wp2_with fail
          refine (impl_StepCount _ _ _ _ x0 x1 _ HP30x2y0.out.rd hS0 (by omega)).mono ?_
          rintro e wc30x3 ⟨v31x0, v31x1, v31x2, v31x3, bs31, rfl, ho31, lo31, hb30x3⟩
          obtain ⟨A31, d31, B31, e31, C31, f31, D31, g31, rfl, rfl, rfl, rfl⟩ := ho31.slices
          have HR30x3 := Lib.hid ho31
          have HL30x3 := Lib.hid lo31
          clear ho31 lo31
          have T30x3 := Lib.hid (T30x2.out.trans (hb30x3.mono T30x2.out.size))
          have HP30x3y0 := Lib.hid (HP30x2y0.out.below hb30x3)
          have zz30x3 := hb30x3.size
          clear hb30x3
          try dsimp only
          go_wp2_with fail
          refine ⟨⟨fun _ => ⟨⟨wc30x3, T30x3.out⟩, rfl⟩, fun _ => trivial⟩, ?_⟩
          refine wpAnyX_pass (C := (fun _ => True)) none [false, false, false, false, false, true, true, true] rfl (by kernel_rfl) (fun _ _ t _ _ h => by cases t <;> exact h) ⟨fun _ => ⟨⟨wc30x3, T30x3.out⟩, rfl⟩, fun _ => trivial⟩ ?_
          simp only [keepOps]
          repeat (go_big_quiet_step (fail))
          refine wpQuiet_nil ?_
          refine wpAnyX_one 8 rfl (by kernel_rfl) (by kernel_rfl) ?_
          go_wp2_with fail
          have sg30x4 := T30x3.out.size
          have HQ30 := HR30x3.out.lt
          obtain ⟨wc30x4, hw30x4⟩ : ∃ wA, wA = wc30x3.alloc (.cells #[.slice none 0 0, .slice none 0 0, .slice none 0 0, .slice none 0 0, .int .i64 0] 31) := ⟨_, rfl⟩
          have T30x4 : Hid (Below w28.heap.size w28 wc30x4) := Lib.hid (by rw [hw30x4]; exact T30x3.out.alloc T30x3.out.size _)
          have KB30x4 : Hid (Bk wc30x4 wc30x3.heap.size #[.slice none 0 0, .slice none 0 0, .slice none 0 0, .slice none 0 0, .int .i64 0] 31) := Lib.hid (by rw [hw30x4]; exact Bk.new _ _ _)
          have HR30x4 : Hid (OwnBn wc30x4 (.slice A31 (stepBn x0 x1).l.length d31) (.slice B31 (stepBn x0 x1).h.length e31) (.slice C31 (stepBn x0 x1).w.length f31) (.slice D31 (stepBn x0 x1).f.length g31) (stepBn x0 x1) bs31) := Lib.hid (by rw [hw30x4]; exact HR30x3.out.below ((Below.refl _ _).alloc (Nat.le_refl _) _))
          rw [← hw30x4]
          clear hw30x4
          refine ⟨⟨fun _ => ⟨⟨wc30x4, T30x4.out⟩, rfl⟩, fun _ => trivial⟩, ?_⟩
          refine wpAnyX_one 9 rfl (by kernel_rfl) (by kernel_rfl) ?_
          obtain ⟨⟨y0, y1, y2, y3, y4⟩, z0, z1, z2, z3, z4⟩ := five KB30x4.out
          have hkl := KB30x4.out.lt
          have htl := T30x4.out.size
          go_wp2_with fail
          have TS := Lib.hid (below_set5 T30x4.out (g := wc30x3.heap.size) (by omega) (.slice A31 (stepBn x0 x1).l.length d31) (.slice B31 (stepBn x0 x1).h.length e31) (.slice C31 (stepBn x0 x1).w.length f31) (.slice D31 (stepBn x0 x1).f.length g31) (.int .i64 (stepBn x0 x1).n))
          refine ⟨⟨fun _ => ⟨⟨_, TS.out⟩, rfl⟩, fun _ => trivial⟩, ?_⟩
          clear y0 y1 y2 y3 y4 z0 z1 z2 z3 z4
          refine wpAnyX_one 10 rfl (by kernel_rfl) (by kernel_rfl) ?_
          go_wp2_with fail
          refine ⟨⟨fun h => absurd (show true = false from h) (by decide), fun _ => trivial⟩, ?_⟩
          refine wpAnyX_done (by kernel_rfl) ?_
          try dsimp only
          go_wp2_with fail
          go_meet
          exact ⟨A31, d31, B31, e31, C31, f31, D31, g31, bs31, _, rfl, rfl, HR30x4.out.only (only_set5 _ wc30x3.heap.size (.slice A31 (stepBn x0 x1).l.length d31) (.slice B31 (stepBn x0 x1).h.length e31) (.slice C31 (stepBn x0 x1).w.length f31) (.slice D31 (stepBn x0 x1).f.length g31) (.int .i64 (stepBn x0 x1).n)) (fun y9 hy9 hm9 => by have := List.mem_singleton.1 hm9; have := HL30x3.out y9 hy9; have := HR30x4.out.lt y9 hy9; have := HQ30 y9 hy9; omega), fun y9 hy9 => by have := HL30x3.out y9 hy9; omega, KB30x4.out.set5 (.slice A31 (stepBn x0 x1).l.length d31) (.slice B31 (stepBn x0 x1).h.length e31) (.slice C31 (stepBn x0 x1).w.length f31) (.slice D31 (stepBn x0 x1).f.length g31) (.int .i64 (stepBn x0 x1).n), by omega, TS.out, fun hm9 => by have := HL30x3.out _ hm9; have := HR30x4.out.lt _ hm9; have := HQ30 _ hm9; omega⟩
        · skip
          go_wp2_with fail
          have sg30x5 := T30x2.out.size
          obtain ⟨wc30x5, hw30x5⟩ : ∃ wA, wA = wc30x2.alloc (.cells #[.slice none 0 0, .slice none 0 0, .slice none 0 0, .slice none 0 0, .int .i64 0] 31) := ⟨_, rfl⟩
          have T30x5 : Hid (Below w28.heap.size w28 wc30x5) := Lib.hid (by rw [hw30x5]; exact T30x2.out.alloc T30x2.out.size _)
          have KB30x5 : Hid (Bk wc30x5 wc30x2.heap.size #[.slice none 0 0, .slice none 0 0, .slice none 0 0, .slice none 0 0, .int .i64 0] 31) := Lib.hid (by rw [hw30x5]; exact Bk.new _ _ _)
          have hal30x5 : Below wc30x2.heap.size wc30x2 wc30x5 := by rw [hw30x5]; exact (Below.refl _ _).alloc (Nat.le_refl _) _
          have HP30x5y0 := Lib.hid (HP30x2y0.out.below hal30x5)
          have zz30x5 : wc30x5.heap.size = wc30x2.heap.size + 1 := by rw [hw30x5]; simp
          rw [← hw30x5]
          clear hw30x5 hal30x5
          refine ⟨⟨fun _ => ⟨⟨wc30x5, T30x5.out⟩, rfl⟩, fun _ => trivial⟩, ?_⟩
          refine wpAnyX_one 4 rfl (by kernel_rfl) (by kernel_rfl) ?_
          go_wp2_with fail
          refine (impl_StepCount _ _ _ _ x0 x1 _ HP30x5y0.out.rd hS0 (by omega)).mono ?_
          rintro e wc30x6 ⟨v31x0, v31x1, v31x2, v31x3, bs31, rfl, ho31, lo31, hb30x6⟩
          obtain ⟨A31, d31, B31, e31, C31, f31, D31, g31, rfl, rfl, rfl, rfl⟩ := ho31.slices
          have HR30x6 := Lib.hid ho31
          have HL30x6 := Lib.hid lo31
          clear ho31 lo31
          have T30x6 := Lib.hid (T30x5.out.trans (hb30x6.mono T30x5.out.size))
          have HP30x6y0 := Lib.hid (HP30x5y0.out.below hb30x6)
          have KB30x6 := Lib.hid (KB30x5.out.below hb30x6 KB30x5.out.lt)
          have zz30x6 := hb30x6.size
          clear hb30x6
          try dsimp only
          go_wp2_with fail
          refine ⟨⟨fun _ => ⟨⟨wc30x6, T30x6.out⟩, rfl⟩, fun _ => trivial⟩, ?_⟩
          refine wpAnyX_pass (C := (fun _ => True)) none [false, false, false, false, false, true, true, true] rfl (by kernel_rfl) (fun _ _ t _ _ h => by cases t <;> exact h) ⟨fun _ => ⟨⟨wc30x6, T30x6.out⟩, rfl⟩, fun _ => trivial⟩ ?_
          simp only [keepOps]
          repeat (go_big_quiet_step (fail))
          refine wpQuiet_nil ?_
          refine wpAnyX_one 9 rfl (by kernel_rfl) (by kernel_rfl) ?_
          obtain ⟨⟨y0, y1, y2, y3, y4⟩, z0, z1, z2, z3, z4⟩ := five KB30x6.out
          have hkl := KB30x6.out.lt
          have htl := T30x6.out.size
          go_wp2_with fail
          have TS := Lib.hid (below_set5 T30x6.out (g := wc30x2.heap.size) (by omega) (.slice A31 (stepBn x0 x1).l.length d31) (.slice B31 (stepBn x0 x1).h.length e31) (.slice C31 (stepBn x0 x1).w.length f31) (.slice D31 (stepBn x0 x1).f.length g31) (.int .i64 (stepBn x0 x1).n))
          refine ⟨⟨fun _ => ⟨⟨_, TS.out⟩, rfl⟩, fun _ => trivial⟩, ?_⟩
          clear y0 y1 y2 y3 y4 z0 z1 z2 z3 z4
          refine wpAnyX_one 10 rfl (by kernel_rfl) (by kernel_rfl) ?_
          go_wp2_with fail
          refine ⟨⟨fun h => absurd (show true = false from h) (by decide), fun _ => trivial⟩, ?_⟩
          refine wpAnyX_done (by kernel_rfl) ?_
          try dsimp only
          go_wp2_with fail
          go_meet
          exact ⟨A31, d31, B31, e31, C31, f31, D31, g31, bs31, _, rfl, rfl, HR30x6.out.only (only_set5 _ wc30x2.heap.size (.slice A31 (stepBn x0 x1).l.length d31) (.slice B31 (stepBn x0 x1).h.length e31) (.slice C31 (stepBn x0 x1).w.length f31) (.slice D31 (stepBn x0 x1).f.length g31) (.int .i64 (stepBn x0 x1).n)) (fun y9 hy9 hm9 => by have := List.mem_singleton.1 hm9; have := HL30x6.out y9 hy9; have := HR30x6.out.lt y9 hy9; omega), fun y9 hy9 => by have := HL30x6.out y9 hy9; omega, KB30x6.out.set5 (.slice A31 (stepBn x0 x1).l.length d31) (.slice B31 (stepBn x0 x1).h.length e31) (.slice C31 (stepBn x0 x1).w.length f31) (.slice D31 (stepBn x0 x1).f.length g31) (.int .i64 (stepBn x0 x1).n), by omega, TS.out, fun hm9 => by have := HL30x6.out _ hm9; have := HR30x6.out.lt _ hm9; omega⟩
      · skip
        go_wp2_with fail
        have sg30x7 := T30x1.out.size
        obtain ⟨wc30x7, hw30x7⟩ : ∃ wA, wA = wc30x1.alloc (.cells #[.slice none 0 0, .slice none 0 0, .slice none 0 0, .slice none 0 0, .int .i64 0] 31) := ⟨_, rfl⟩
        have T30x7 : Hid (Below w28.heap.size w28 wc30x7) := Lib.hid (by rw [hw30x7]; exact T30x1.out.alloc T30x1.out.size _)
        have KB30x7 : Hid (Bk wc30x7 wc30x1.heap.size #[.slice none 0 0, .slice none 0 0, .slice none 0 0, .slice none 0 0, .int .i64 0] 31) := Lib.hid (by rw [hw30x7]; exact Bk.new _ _ _)
        have hal30x7 : Below wc30x1.heap.size wc30x1 wc30x7 := by rw [hw30x7]; exact (Below.refl _ _).alloc (Nat.le_refl _) _
        have HP30x7y0 := Lib.hid (HP30x1.out.below hal30x7)
        have zz30x7 : wc30x7.heap.size = wc30x1.heap.size + 1 := by rw [hw30x7]; simp
        rw [← hw30x7]
        clear hw30x7 hal30x7
        refine ⟨⟨fun _ => ⟨⟨wc30x7, T30x7.out⟩, rfl⟩, fun _ => trivial⟩, ?_⟩
        refine wpAnyX_one 3 rfl (by kernel_rfl) (by kernel_rfl) ?_
        go_wp2_with fail
        refine (toOp x1 _).mono ?_
        rintro e wc30x8 ⟨rfl, hb30x8⟩
        have T30x8 := Lib.hid (T30x7.out.trans (hb30x8.mono T30x7.out.size))
        have HP30x8y0 := Lib.hid (HP30x7y0.out.below hb30x8)
        have KB30x8 := Lib.hid (KB30x7.out.below hb30x8 KB30x7.out.lt)
        have zz30x8 := hb30x8.size
        clear hb30x8
        try dsimp only
        go_wp2_with fail
        refine ⟨⟨fun _ => ⟨⟨wc30x8, T30x8.out⟩, rfl⟩, fun _ => trivial⟩, ?_⟩
        refine wpAnyX_one 4 rfl (by kernel_rfl) (by kernel_rfl) ?_
        go_wp2_with fail
        refine (impl_StepCount _ _ _ _ x0 x1 _ HP30x8y0.out.rd hS0 (by omega)).mono ?_
        rintro e wc30x9 ⟨v31x0, v31x1, v31x2, v31x3, bs31, rfl, ho31, lo31, hb30x9⟩
        obtain ⟨A31, d31, B31, e31, C31, f31, D31, g31, rfl, rfl, rfl, rfl⟩ := ho31.slices
        have HR30x9 := Lib.hid ho31
        have HL30x9 := Lib.hid lo31
        clear ho31 lo31
        have T30x9 := Lib.hid (T30x8.out.trans (hb30x9.mono T30x8.out.size))
        have HP30x9y0 := Lib.hid (HP30x8y0.out.below hb30x9)
        have KB30x9 := Lib.hid (KB30x8.out.below hb30x9 KB30x8.out.lt)
        have zz30x9 := hb30x9.size
        clear hb30x9
        try dsimp only
        go_wp2_with fail
        refine ⟨⟨fun _ => ⟨⟨wc30x9, T30x9.out⟩, rfl⟩, fun _ => trivial⟩, ?_⟩
        refine wpAnyX_pass (C := (fun _ => True)) none [false, false, false, false, false, true, true, true] rfl (by kernel_rfl) (fun _ _ t _ _ h => by cases t <;> exact h) ⟨fun _ => ⟨⟨wc30x9, T30x9.out⟩, rfl⟩, fun _ => trivial⟩ ?_
        simp only [keepOps]
        repeat (go_big_quiet_step (fail))
        refine wpQuiet_nil ?_
        refine wpAnyX_one 9 rfl (by kernel_rfl) (by kernel_rfl) ?_
        obtain ⟨⟨y0, y1, y2, y3, y4⟩, z0, z1, z2, z3, z4⟩ := five KB30x9.out
        have hkl := KB30x9.out.lt
        have htl := T30x9.out.size
        go_wp2_with fail
        have TS := Lib.hid (below_set5 T30x9.out (g := wc30x1.heap.size) (by omega) (.slice A31 (stepBn x0 x1).l.length d31) (.slice B31 (stepBn x0 x1).h.length e31) (.slice C31 (stepBn x0 x1).w.length f31) (.slice D31 (stepBn x0 x1).f.length g31) (.int .i64 (stepBn x0 x1).n))
        refine ⟨⟨fun _ => ⟨⟨_, TS.out⟩, rfl⟩, fun _ => trivial⟩, ?_⟩
        clear y0 y1 y2 y3 y4 z0 z1 z2 z3 z4
        refine wpAnyX_one 10 rfl (by kernel_rfl) (by kernel_rfl) ?_
        go_wp2_with fail
        refine ⟨⟨fun h => absurd (show true = false from h) (by decide), fun _ => trivial⟩, ?_⟩
        refine wpAnyX_done (by kernel_rfl) ?_
        try dsimp only
        go_wp2_with fail
        go_meet
        exact ⟨A31, d31, B31, e31, C31, f31, D31, g31, bs31, _, rfl, rfl, HR30x9.out.only (only_set5 _ wc30x1.heap.size (.slice A31 (stepBn x0 x1).l.length d31) (.slice B31 (stepBn x0 x1).h.length e31) (.slice C31 (stepBn x0 x1).w.length f31) (.slice D31 (stepBn x0 x1).f.length g31) (.int .i64 (stepBn x0 x1).n)) (fun y9 hy9 hm9 => by have := List.mem_singleton.1 hm9; have := HL30x9.out y9 hy9; have := HR30x9.out.lt y9 hy9; omega), fun y9 hy9 => by have := HL30x9.out y9 hy9; omega, KB30x9.out.set5 (.slice A31 (stepBn x0 x1).l.length d31) (.slice B31 (stepBn x0 x1).h.length e31) (.slice C31 (stepBn x0 x1).w.length f31) (.slice D31 (stepBn x0 x1).f.length g31) (.int .i64 (stepBn x0 x1).n), by omega, TS.out, fun hm9 => by have := HL30x9.out _ hm9; have := HR30x9.out.lt _ hm9; omega⟩
    · skip
      go_wp2_with fail
      have sg30x10 := T0.out.size
      obtain ⟨wc30x10, hw30x10⟩ : ∃ wA, wA = w0.alloc (.cells #[.slice none 0 0, .slice none 0 0, .slice none 0 0, .slice none 0 0, .int .i64 0] 31) := ⟨_, rfl⟩
      have T30x10 : Hid (Below w28.heap.size w28 wc30x10) := Lib.hid (by rw [hw30x10]; exact T0.out.alloc T0.out.size _)
      have KB30x10 : Hid (Bk wc30x10 w0.heap.size #[.slice none 0 0, .slice none 0 0, .slice none 0 0, .slice none 0 0, .int .i64 0] 31) := Lib.hid (by rw [hw30x10]; exact Bk.new _ _ _)
      have hal30x10 : Below w0.heap.size w0 wc30x10 := by rw [hw30x10]; exact (Below.refl _ _).alloc (Nat.le_refl _) _
      have zz30x10 : wc30x10.heap.size = w0.heap.size + 1 := by rw [hw30x10]; simp
      rw [← hw30x10]
      clear hw30x10 hal30x10
      refine ⟨⟨fun _ => ⟨⟨wc30x10, T30x10.out⟩, rfl⟩, fun _ => trivial⟩, ?_⟩
      refine wpAnyX_one 1 rfl (by kernel_rfl) (by kernel_rfl) ?_
      go_wp2_with fail
      refine (toBench _ _ _ _ x0 _ (HAaB.out.below (HB30.out.trans (T30x10.out.mono HB30.out.size))) (by omega)).mono ?_
      rintro e wc30x11 ⟨v33x0, v33x1, v33x2, v33x3, bs33, rfl, ho30x11, -, hb30x11⟩
      obtain ⟨A30x11, d30x11, B30x11, e30x11, C30x11, f30x11, D30x11, g30x11, rfl, rfl, rfl, rfl⟩ := ho30x11.slices
      have HP30x11 := Lib.hid ho30x11
      clear ho30x11
      have T30x11 := Lib.hid (T30x10.out.trans (hb30x11.mono T30x10.out.size))
      have KB30x11 := Lib.hid (KB30x10.out.below hb30x11 KB30x10.out.lt)
      have zz30x11 := hb30x11.size
      clear hb30x11
      try dsimp only
      go_wp2_with fail
      refine ⟨⟨fun _ => ⟨⟨wc30x11, T30x11.out⟩, rfl⟩, fun _ => trivial⟩, ?_⟩
      refine wpAnyX_one 3 rfl (by kernel_rfl) (by kernel_rfl) ?_
      go_wp2_with fail
      refine (toOp x1 _).mono ?_
      rintro e wc30x12 ⟨rfl, hb30x12⟩
      have T30x12 := Lib.hid (T30x11.out.trans (hb30x12.mono T30x11.out.size))
      have HP30x12y0 := Lib.hid (HP30x11.out.below hb30x12)
      have KB30x12 := Lib.hid (KB30x11.out.below hb30x12 KB30x11.out.lt)
      have zz30x12 := hb30x12.size
      clear hb30x12
      try dsimp only
      go_wp2_with fail
      refine ⟨⟨fun _ => ⟨⟨wc30x12, T30x12.out⟩, rfl⟩, fun _ => trivial⟩, ?_⟩
      refine wpAnyX_one 4 rfl (by kernel_rfl) (by kernel_rfl) ?_
      go_wp2_with fail
      refine (impl_StepCount _ _ _ _ x0 x1 _ HP30x12y0.out.rd hS0 (by omega)).mono ?_
      rintro e wc30x13 ⟨v31x0, v31x1, v31x2, v31x3, bs31, rfl, ho31, lo31, hb30x13⟩
      obtain ⟨A31, d31, B31, e31, C31, f31, D31, g31, rfl, rfl, rfl, rfl⟩ := ho31.slices
      have HR30x13 := Lib.hid ho31
      have HL30x13 := Lib.hid lo31
      clear ho31 lo31
      have T30x13 := Lib.hid (T30x12.out.trans (hb30x13.mono T30x12.out.size))
      have HP30x13y0 := Lib.hid (HP30x12y0.out.below hb30x13)
      have KB30x13 := Lib.hid (KB30x12.out.below hb30x13 KB30x12.out.lt)
      have zz30x13 := hb30x13.size
      clear hb30x13
      try dsimp only
      go_wp2_with fail
      refine ⟨⟨fun _ => ⟨⟨wc30x13, T30x13.out⟩, rfl⟩, fun _ => trivial⟩, ?_⟩
      refine wpAnyX_pass (C := (fun _ => True)) none [false, false, false, false, false, true, true, true] rfl (by kernel_rfl) (fun _ _ t _ _ h => by cases t <;> exact h) ⟨fun _ => ⟨⟨wc30x13, T30x13.out⟩, rfl⟩, fun _ => trivial⟩ ?_
      simp only [keepOps]
      repeat (go_big_quiet_step (fail))
      refine wpQuiet_nil ?_
      refine wpAnyX_one 9 rfl (by kernel_rfl) (by kernel_rfl) ?_
      obtain ⟨⟨y0, y1, y2, y3, y4⟩, z0, z1, z2, z3, z4⟩ := five KB30x13.out
      have hkl := KB30x13.out.lt
      have htl := T30x13.out.size
      go_wp2_with fail
      have TS := Lib.hid (below_set5 T30x13.out (g := w0.heap.size) (by omega) (.slice A31 (stepBn x0 x1).l.length d31) (.slice B31 (stepBn x0 x1).h.length e31) (.slice C31 (stepBn x0 x1).w.length f31) (.slice D31 (stepBn x0 x1).f.length g31) (.int .i64 (stepBn x0 x1).n))
      refine ⟨⟨fun _ => ⟨⟨_, TS.out⟩, rfl⟩, fun _ => trivial⟩, ?_⟩
      clear y0 y1 y2 y3 y4 z0 z1 z2 z3 z4
      refine wpAnyX_one 10 rfl (by kernel_rfl) (by kernel_rfl) ?_
      go_wp2_with fail
      refine ⟨⟨fun h => absurd (show true = false from h) (by decide), fun _ => trivial⟩, ?_⟩
      refine wpAnyX_done (by kernel_rfl) ?_
      try dsimp only
      go_wp2_with fail
      go_meet
      exact ⟨A31, d31, B31, e31, C31, f31, D31, g31, bs31, _, rfl, rfl, HR30x13.out.only (only_set5 _ w0.heap.size (.slice A31 (stepBn x0 x1).l.length d31) (.slice B31 (stepBn x0 x1).h.length e31) (.slice C31 (stepBn x0 x1).w.length f31) (.slice D31 (stepBn x0 x1).f.length g31) (.int .i64 (stepBn x0 x1).n)) (fun y9 hy9 hm9 => by have := List.mem_singleton.1 hm9; have := HL30x13.out y9 hy9; have := HR30x13.out.lt y9 hy9; omega), fun y9 hy9 => by have := HL30x13.out y9 hy9; omega, KB30x13.out.set5 (.slice A31 (stepBn x0 x1).l.length d31) (.slice B31 (stepBn x0 x1).h.length e31) (.slice C31 (stepBn x0 x1).w.length f31) (.slice D31 (stepBn x0 x1).f.length g31) (.int .i64 (stepBn x0 x1).n), by omega, TS.out, fun hm9 => by have := HL30x13.out _ hm9; have := HR30x13.out.lt _ hm9; omega⟩
  obtain ⟨A31, d31, B31, e31, C31, f31, D31, g31, bs31, gg30, rfl, rfl, ho31, lo31, kg30, hgl30, hBc30, ng30⟩ := hcut
  rename World => wc30
  have hgt30 := kg30.lt
  clear HB30 hrl30x1 hrl30x2
  clear l1 l2 hc5x0 hc5x1 hc5x2 hc5x3 hc5x4 l5 hc12x0 hc12x1 hc12x2 hc12x3 hc12x4 l12 hc14x0 hc14x1 hc14x2 hc14x3 hc14x4 l14
  have sz34 := hBc30.size
  try simp only [World.size_alloc] at sz34
  have hB'''''''''''''' := hB'''''''''''''.trans (hBc30.mono hB'''''''''''''.size)
  clear hB'''''''''''''
  have k1''''''''''''' := k1''''''''''''.below hBc30 k1''''''''''''.lt
  clear k1''''''''''''
  have k2'''''''''''' := k2'''''''''''.below hBc30 k2'''''''''''.lt
  clear k2'''''''''''
  have kg5'''''''''' := kg5'''''''''.below hBc30 kg5'''''''''.lt
  clear kg5'''''''''
  have k12'''''''' := k12'''''''.below hBc30 k12'''''''.lt
  clear k12'''''''
  have kg14''''''' := kg14''''''.below hBc30 kg14''''''.lt
  clear kg14''''''
  have ho6'''''''''' := ho6'''''''''.below hBc30
  clear ho6'''''''''
  have hq22'''' := hq22'''.below hBc30
  clear hq22'''
  have hq26'' := hq26'.below hBc30
  clear hq26'
  have hi31 := ho31.lt
  obtain ⟨hc1x0, gc1x0⟩ := k1'''''''''''''.at_ 0 (x := .slice Aa0 x0.l.length da0) rfl
  obtain ⟨hc1x1, gc1x1⟩ := k1'''''''''''''.at_ 1 (x := .slice Ba0 x0.h.length ea0) rfl
  obtain ⟨hc1x2, gc1x2⟩ := k1'''''''''''''.at_ 2 (x := .slice Ca0 x0.w.length fa0) rfl
  obtain ⟨hc1x3, gc1x3⟩ := k1'''''''''''''.at_ 3 (x := .slice Da0 x0.f.length ga0) rfl
  obtain ⟨hc1x4, gc1x4⟩ := k1'''''''''''''.at_ 4 (x := .int .i64 x0.n) rfl
  have l1 := k1'''''''''''''.lt
  obtain ⟨hc2x0, gc2x0⟩ := k2''''''''''''.at_ 0 (x := .int .i64 x1.k) rfl
  obtain ⟨hc2x1, gc2x1⟩ := k2''''''''''''.at_ 1 (x := .int .i64 x1.t) rfl
  obtain ⟨hc2x2, gc2x2⟩ := k2''''''''''''.at_ 2 (x := .int .i64 x1.x) rfl
  have l2 := k2''''''''''''.lt
  obtain ⟨hc5x0, gc5x0⟩ := kg5''''''''''.at_ 0 (x := .slice A6 (stepBn x0 x1).l.length d6) rfl
  obtain ⟨hc5x1, gc5x1⟩ := kg5''''''''''.at_ 1 (x := .slice B6 (stepBn x0 x1).h.length e6) rfl
  obtain ⟨hc5x2, gc5x2⟩ := kg5''''''''''.at_ 2 (x := .slice C6 (stepBn x0 x1).w.length f6) rfl
  obtain ⟨hc5x3, gc5x3⟩ := kg5''''''''''.at_ 3 (x := .slice D6 (stepBn x0 x1).f.length g6) rfl
  obtain ⟨hc5x4, gc5x4⟩ := kg5''''''''''.at_ 4 (x := .int .i64 (stepBn x0 x1).n) rfl
  have l5 := kg5''''''''''.lt
  obtain ⟨hc12x0, gc12x0⟩ := k12''''''''.at_ 0 (x := .slice A10 x0.l.length d10) rfl
  obtain ⟨hc12x1, gc12x1⟩ := k12''''''''.at_ 1 (x := .slice B10 x0.h.length e10) rfl
  obtain ⟨hc12x2, gc12x2⟩ := k12''''''''.at_ 2 (x := .slice C10 x0.w.length f10) rfl
  obtain ⟨hc12x3, gc12x3⟩ := k12''''''''.at_ 3 (x := .slice D10 x0.f.length g10) rfl
  obtain ⟨hc12x4, gc12x4⟩ := k12''''''''.at_ 4 (x := .int .i64 x0.n) rfl
  have l12 := k12''''''''.lt
  obtain ⟨hc14x0, gc14x0⟩ := kg14'''''''.at_ 0 (x := .slice A15 (stepBn x0 x1).l.length d15) rfl
  obtain ⟨hc14x1, gc14x1⟩ := kg14'''''''.at_ 1 (x := .slice B15 (stepBn x0 x1).h.length e15) rfl
  obtain ⟨hc14x2, gc14x2⟩ := kg14'''''''.at_ 2 (x := .slice C15 (stepBn x0 x1).w.length f15) rfl
  obtain ⟨hc14x3, gc14x3⟩ := kg14'''''''.at_ 3 (x := .slice D15 (stepBn x0 x1).f.length g15) rfl
  obtain ⟨hc14x4, gc14x4⟩ := kg14'''''''.at_ 4 (x := .int .i64 (stepBn x0 x1).n) rfl
  have l14 := kg14'''''''.lt
  obtain ⟨hc30x0, gc30x0⟩ := kg30.at_ 0 (x := .slice A31 (stepBn x0 x1).l.length d31) rfl
  obtain ⟨hc30x1, gc30x1⟩ := kg30.at_ 1 (x := .slice B31 (stepBn x0 x1).h.length e31) rfl
  obtain ⟨hc30x2, gc30x2⟩ := kg30.at_ 2 (x := .slice C31 (stepBn x0 x1).w.length f31) rfl
  obtain ⟨hc30x3, gc30x3⟩ := kg30.at_ 3 (x := .slice D31 (stepBn x0 x1).f.length g31) rfl
  obtain ⟨hc30x4, gc30x4⟩ := kg30.at_ 4 (x := .int .i64 (stepBn x0 x1).n) rfl
  have l30 := kg30.lt
  go_wp2_with fail
  refine (eqBench _ _ _ _ _ _ _ _ ((stepBn x0 x1)) ((stepBn x0 x1)) _ ho31.rd ho6''''''''''.rd).mono ?_
  rintro e w35 ⟨rfl, hb35⟩
  rw [decide_eq_true rfl]
  clear hc1x0 gc1x0 hc1x1 gc1x1 hc1x2 gc1x2 hc1x3 gc1x3 hc1x4 gc1x4 l1 hc2x0 gc2x0 hc2x1 gc2x1 hc2x2 gc2x2 l2 hc5x0 gc5x0 hc5x1 gc5x1 hc5x2 gc5x2 hc5x3 gc5x3 hc5x4 gc5x4 l5 hc12x0 gc12x0 hc12x1 gc12x1 hc12x2 gc12x2 hc12x3 gc12x3 hc12x4 gc12x4 l12 hc14x0 gc14x0 hc14x1 gc14x1 hc14x2 gc14x2 hc14x3 gc14x3 hc14x4 gc14x4 l14 hc30x0 gc30x0 hc30x1 gc30x1 hc30x2 gc30x2 hc30x3 gc30x3 hc30x4 gc30x4 l30
  have sz36 := hb35.size
  try simp only [World.size_alloc] at sz36
  have hB''''''''''''''' := hB''''''''''''''.trans (hb35.mono hB''''''''''''''.size)
  clear hB''''''''''''''
  have k1'''''''''''''' := k1'''''''''''''.below hb35 k1'''''''''''''.lt
  clear k1'''''''''''''
  have k2''''''''''''' := k2''''''''''''.below hb35 k2''''''''''''.lt
  clear k2''''''''''''
  have kg5''''''''''' := kg5''''''''''.below hb35 kg5''''''''''.lt
  clear kg5''''''''''
  have k12''''''''' := k12''''''''.below hb35 k12''''''''.lt
  clear k12''''''''
  have kg14'''''''' := kg14'''''''.below hb35 kg14'''''''.lt
  clear kg14'''''''
  have kg30' := kg30.below hb35 kg30.lt
  clear kg30
  have ho6''''''''''' := ho6''''''''''.below hb35
  clear ho6''''''''''
  have hq22''''' := hq22''''.below hb35
  clear hq22''''
  have hq26''' := hq26''.below hb35
  clear hq26''
  have ho31' := ho31.below hb35
  clear ho31
  obtain ⟨hc1x0, gc1x0⟩ := k1''''''''''''''.at_ 0 (x := .slice Aa0 x0.l.length da0) rfl
  obtain ⟨hc1x1, gc1x1⟩ := k1''''''''''''''.at_ 1 (x := .slice Ba0 x0.h.length ea0) rfl
  obtain ⟨hc1x2, gc1x2⟩ := k1''''''''''''''.at_ 2 (x := .slice Ca0 x0.w.length fa0) rfl
  obtain ⟨hc1x3, gc1x3⟩ := k1''''''''''''''.at_ 3 (x := .slice Da0 x0.f.length ga0) rfl
  obtain ⟨hc1x4, gc1x4⟩ := k1''''''''''''''.at_ 4 (x := .int .i64 x0.n) rfl
  have l1 := k1''''''''''''''.lt
  obtain ⟨hc2x0, gc2x0⟩ := k2'''''''''''''.at_ 0 (x := .int .i64 x1.k) rfl
  obtain ⟨hc2x1, gc2x1⟩ := k2'''''''''''''.at_ 1 (x := .int .i64 x1.t) rfl
  obtain ⟨hc2x2, gc2x2⟩ := k2'''''''''''''.at_ 2 (x := .int .i64 x1.x) rfl
  have l2 := k2'''''''''''''.lt
  obtain ⟨hc5x0, gc5x0⟩ := kg5'''''''''''.at_ 0 (x := .slice A6 (stepBn x0 x1).l.length d6) rfl
  obtain ⟨hc5x1, gc5x1⟩ := kg5'''''''''''.at_ 1 (x := .slice B6 (stepBn x0 x1).h.length e6) rfl
  obtain ⟨hc5x2, gc5x2⟩ := kg5'''''''''''.at_ 2 (x := .slice C6 (stepBn x0 x1).w.length f6) rfl
  obtain ⟨hc5x3, gc5x3⟩ := kg5'''''''''''.at_ 3 (x := .slice D6 (stepBn x0 x1).f.length g6) rfl
  obtain ⟨hc5x4, gc5x4⟩ := kg5'''''''''''.at_ 4 (x := .int .i64 (stepBn x0 x1).n) rfl
  have l5 := kg5'''''''''''.lt
  obtain ⟨hc12x0, gc12x0⟩ := k12'''''''''.at_ 0 (x := .slice A10 x0.l.length d10) rfl
  obtain ⟨hc12x1, gc12x1⟩ := k12'''''''''.at_ 1 (x := .slice B10 x0.h.length e10) rfl
  obtain ⟨hc12x2, gc12x2⟩ := k12'''''''''.at_ 2 (x := .slice C10 x0.w.length f10) rfl
  obtain ⟨hc12x3, gc12x3⟩ := k12'''''''''.at_ 3 (x := .slice D10 x0.f.length g10) rfl
  obtain ⟨hc12x4, gc12x4⟩ := k12'''''''''.at_ 4 (x := .int .i64 x0.n) rfl
  have l12 := k12'''''''''.lt
  obtain ⟨hc14x0, gc14x0⟩ := kg14''''''''.at_ 0 (x := .slice A15 (stepBn x0 x1).l.length d15) rfl
  obtain ⟨hc14x1, gc14x1⟩ := kg14''''''''.at_ 1 (x := .slice B15 (stepBn x0 x1).h.length e15) rfl
  obtain ⟨hc14x2, gc14x2⟩ := kg14''''''''.at_ 2 (x := .slice C15 (stepBn x0 x1).w.length f15) rfl
  obtain ⟨hc14x3, gc14x3⟩ := kg14''''''''.at_ 3 (x := .slice D15 (stepBn x0 x1).f.length g15) rfl
  obtain ⟨hc14x4, gc14x4⟩ := kg14''''''''.at_ 4 (x := .int .i64 (stepBn x0 x1).n) rfl
  have l14 := kg14''''''''.lt
  obtain ⟨hc30x0, gc30x0⟩ := kg30'.at_ 0 (x := .slice A31 (stepBn x0 x1).l.length d31) rfl
  obtain ⟨hc30x1, gc30x1⟩ := kg30'.at_ 1 (x := .slice B31 (stepBn x0 x1).h.length e31) rfl
  obtain ⟨hc30x2, gc30x2⟩ := kg30'.at_ 2 (x := .slice C31 (stepBn x0 x1).w.length f31) rfl
  obtain ⟨hc30x3, gc30x3⟩ := kg30'.at_ 3 (x := .slice D31 (stepBn x0 x1).f.length g31) rfl
  obtain ⟨hc30x4, gc30x4⟩ := kg30'.at_ 4 (x := .int .i64 (stepBn x0 x1).n) rfl
  have l30 := kg30'.lt
  go_wp2_with fail
  refine (heldBench _ _ _ _ (stepBn x0 x1) (1) _ hq26'''.rd (by omega) (by omega) (by omega)).mono ?_
  rintro e w37 ⟨rfl, hb37⟩
  clear hc1x0 gc1x0 hc1x1 gc1x1 hc1x2 gc1x2 hc1x3 gc1x3 hc1x4 gc1x4 l1 hc2x0 gc2x0 hc2x1 gc2x1 hc2x2 gc2x2 l2 hc5x0 gc5x0 hc5x1 gc5x1 hc5x2 gc5x2 hc5x3 gc5x3 hc5x4 gc5x4 l5 hc12x0 gc12x0 hc12x1 gc12x1 hc12x2 gc12x2 hc12x3 gc12x3 hc12x4 gc12x4 l12 hc14x0 gc14x0 hc14x1 gc14x1 hc14x2 gc14x2 hc14x3 gc14x3 hc14x4 gc14x4 l14 hc30x0 gc30x0 hc30x1 gc30x1 hc30x2 gc30x2 hc30x3 gc30x3 hc30x4 gc30x4 l30
  have sz38 := hb37.size
  try simp only [World.size_alloc] at sz38
  have hB'''''''''''''''' := hB'''''''''''''''.trans (hb37.mono hB'''''''''''''''.size)
  clear hB'''''''''''''''
  have k1''''''''''''''' := k1''''''''''''''.below hb37 k1''''''''''''''.lt
  clear k1''''''''''''''
  have k2'''''''''''''' := k2'''''''''''''.below hb37 k2'''''''''''''.lt
  clear k2'''''''''''''
  have kg5'''''''''''' := kg5'''''''''''.below hb37 kg5'''''''''''.lt
  clear kg5'''''''''''
  have k12'''''''''' := k12'''''''''.below hb37 k12'''''''''.lt
  clear k12'''''''''
  have kg14''''''''' := kg14''''''''.below hb37 kg14''''''''.lt
  clear kg14''''''''
  have kg30'' := kg30'.below hb37 kg30'.lt
  clear kg30'
  have ho6'''''''''''' := ho6'''''''''''.below hb37
  clear ho6'''''''''''
  have hq22'''''' := hq22'''''.below hb37
  clear hq22'''''
  have hq26'''' := hq26'''.below hb37
  clear hq26'''
  have ho31'' := ho31'.below hb37
  clear ho31'
  obtain ⟨hc1x0, gc1x0⟩ := k1'''''''''''''''.at_ 0 (x := .slice Aa0 x0.l.length da0) rfl
  obtain ⟨hc1x1, gc1x1⟩ := k1'''''''''''''''.at_ 1 (x := .slice Ba0 x0.h.length ea0) rfl
  obtain ⟨hc1x2, gc1x2⟩ := k1'''''''''''''''.at_ 2 (x := .slice Ca0 x0.w.length fa0) rfl
  obtain ⟨hc1x3, gc1x3⟩ := k1'''''''''''''''.at_ 3 (x := .slice Da0 x0.f.length ga0) rfl
  obtain ⟨hc1x4, gc1x4⟩ := k1'''''''''''''''.at_ 4 (x := .int .i64 x0.n) rfl
  have l1 := k1'''''''''''''''.lt
  obtain ⟨hc2x0, gc2x0⟩ := k2''''''''''''''.at_ 0 (x := .int .i64 x1.k) rfl
  obtain ⟨hc2x1, gc2x1⟩ := k2''''''''''''''.at_ 1 (x := .int .i64 x1.t) rfl
  obtain ⟨hc2x2, gc2x2⟩ := k2''''''''''''''.at_ 2 (x := .int .i64 x1.x) rfl
  have l2 := k2''''''''''''''.lt
  obtain ⟨hc5x0, gc5x0⟩ := kg5''''''''''''.at_ 0 (x := .slice A6 (stepBn x0 x1).l.length d6) rfl
  obtain ⟨hc5x1, gc5x1⟩ := kg5''''''''''''.at_ 1 (x := .slice B6 (stepBn x0 x1).h.length e6) rfl
  obtain ⟨hc5x2, gc5x2⟩ := kg5''''''''''''.at_ 2 (x := .slice C6 (stepBn x0 x1).w.length f6) rfl
  obtain ⟨hc5x3, gc5x3⟩ := kg5''''''''''''.at_ 3 (x := .slice D6 (stepBn x0 x1).f.length g6) rfl
  obtain ⟨hc5x4, gc5x4⟩ := kg5''''''''''''.at_ 4 (x := .int .i64 (stepBn x0 x1).n) rfl
  have l5 := kg5''''''''''''.lt
  obtain ⟨hc12x0, gc12x0⟩ := k12''''''''''.at_ 0 (x := .slice A10 x0.l.length d10) rfl
  obtain ⟨hc12x1, gc12x1⟩ := k12''''''''''.at_ 1 (x := .slice B10 x0.h.length e10) rfl
  obtain ⟨hc12x2, gc12x2⟩ := k12''''''''''.at_ 2 (x := .slice C10 x0.w.length f10) rfl
  obtain ⟨hc12x3, gc12x3⟩ := k12''''''''''.at_ 3 (x := .slice D10 x0.f.length g10) rfl
  obtain ⟨hc12x4, gc12x4⟩ := k12''''''''''.at_ 4 (x := .int .i64 x0.n) rfl
  have l12 := k12''''''''''.lt
  obtain ⟨hc14x0, gc14x0⟩ := kg14'''''''''.at_ 0 (x := .slice A15 (stepBn x0 x1).l.length d15) rfl
  obtain ⟨hc14x1, gc14x1⟩ := kg14'''''''''.at_ 1 (x := .slice B15 (stepBn x0 x1).h.length e15) rfl
  obtain ⟨hc14x2, gc14x2⟩ := kg14'''''''''.at_ 2 (x := .slice C15 (stepBn x0 x1).w.length f15) rfl
  obtain ⟨hc14x3, gc14x3⟩ := kg14'''''''''.at_ 3 (x := .slice D15 (stepBn x0 x1).f.length g15) rfl
  obtain ⟨hc14x4, gc14x4⟩ := kg14'''''''''.at_ 4 (x := .int .i64 (stepBn x0 x1).n) rfl
  have l14 := kg14'''''''''.lt
  obtain ⟨hc30x0, gc30x0⟩ := kg30''.at_ 0 (x := .slice A31 (stepBn x0 x1).l.length d31) rfl
  obtain ⟨hc30x1, gc30x1⟩ := kg30''.at_ 1 (x := .slice B31 (stepBn x0 x1).h.length e31) rfl
  obtain ⟨hc30x2, gc30x2⟩ := kg30''.at_ 2 (x := .slice C31 (stepBn x0 x1).w.length f31) rfl
  obtain ⟨hc30x3, gc30x3⟩ := kg30''.at_ 3 (x := .slice D31 (stepBn x0 x1).f.length g31) rfl
  obtain ⟨hc30x4, gc30x4⟩ := kg30''.at_ 4 (x := .int .i64 (stepBn x0 x1).n) rfl
  have l30 := kg30''.lt
  go_wp2_with fail
  go_ret
  exact ⟨rfl, hB''''''''''''''''⟩
set_option maxRecDepth 100000 in
theorem lift_StepCount (os : Os) (started : os.Started) (H : Type) (enc : TypeId × Value → H) :
    ReturnsInHanded {} Try.checked os 3 .any (Rows.fnExactStepCountSpec.pre6 enc Try.prog Try.f3 Rows.fnExactStepCountRow.domain false) (Rows.fnExactStepCountSpec.post enc Try.prog Try.f3 false true false false) := by
  refine returnsInHanded_of_change (C := Try.checked) (by kernel_rfl) started (by kernel_rfl) Try.func3
    (ChangeSpec.witness6 (enc := enc) (C := Try.checked) false ⟨#[], #[.agg #[.slice none 0 0, .slice none 0 0, .slice none 0 0, .slice none 0 0, .int .i64 0], .agg #[.int .i64 0, .int .i64 0, .int .i64 0]], []⟩ 8 (by kernel_rfl) (by kernel_rfl) (by kernel_rfl) (by kernel_rfl)) ?_
  intro W base args ds gs before hval0 hW hcnd _
  have hval : ∀ (j : Nat) t v, Try.f3.params[j]? = some t → args[j]? = some v → Value.okWide Try.prog W .any base t v := hval0
  have hW' := hW
  obtain ⟨p, q, hA0, hV, rfl, hfz, hnd⟩ := hW
  have hA : DataW.TrodAll enc Try.prog W 0 (fun _ => true) true Try.f3.params.toList args.toList ds p := hA0
  rw [Try.params3] at hA hval
  obtain ⟨v0, vs0, d0, ds0, p0, q0, hargs, rfl, rfl, h0, r0⟩ := trodAll_cons hA
  obtain ⟨v1, vs1, d1, ds1, p1, q1, rfl, rfl, rfl, h1, r1⟩ := trodAll_cons r0
  obtain ⟨rfl, rfl, rfl⟩ := trodAll_nil r1
  obtain rfl : args = #[v0, v1] := by cases args; simp_all
  obtain ⟨rfl, rfl⟩ := trodVars_none hV
  obtain ⟨c0, u0, s0, t0, x0, rfl, hR0, hI0⟩ := read_bench Try.underlying25 ⟨⟨rfl, rfl⟩, rfl, rfl, rfl⟩ (by decide +kernel) ⟨⟨by kernel_rfl, by kernel_rfl⟩, by kernel_rfl, by kernel_rfl, by kernel_rfl⟩ Try.underlying22 Try.underlying3 (by kernel_rfl) Try.underlying23 Try.underlying113 (by kernel_rfl) ⟨rfl, rfl⟩ (by decide +kernel) ⟨Try.underlying3, Try.underlying3⟩ Try.underlying22 Try.underlying22 Try.underlying3 (hval 0 _ v0 rfl rfl) h0
  obtain ⟨x1, rfl, xw1⟩ := read_o3 Try.underlying27 (by kernel_rfl) ⟨rfl, rfl, rfl⟩ (by decide +kernel) ⟨Try.underlying3, Try.underlying3, Try.underlying3⟩ (hval 1 _ v1 rfl rfl) h1
  refine (walk_StepCount _ _ _ _ x0 x1 W hR0 hI0).mono fun e W' ⟨he, hb⟩ => ?_
  subst he
  exact ⟨_, rfl, post_law (by kernel_rfl) rfl rfl (by kernel_rfl) Try.underlying4 (of_decide_eq_true (by kernel_rfl)) hW' hb⟩
theorem FnExactStepCount_holds : Rows.FnExactStepCountSaid :=
  OpenClaim.holds_of_wide 3 Try.f3 rfl rfl rfl rfl rfl rfl rfl ⟨rfl, rfl, rfl, rfl, rfl⟩ rfl rfl rfl rfl rfl (by kernel_rfl) Try.func3 (by kernel_rfl)
    (of_decide_eq_true (by kernel_rfl)) (by unfold Func.isWrapper; first | (rw [if_pos (by decide +kernel)]; kernel_rfl) | (rw [if_neg (by decide +kernel)]; exact ⟨rfl, rfl⟩))
    (fun os started H enc _ => lift_StepCount os started H enc)
#print axioms FnExactStepCount_holds
end Go.Proofs.Ytiamkgkhamnaeaa
