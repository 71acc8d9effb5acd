/- FnExactFreeObj answers true at every input: FreeObj answers as its model does, leaves its arguments alone and owns its answer. Conditions: none. -/
import Derived.Test.YtpenneklpolhgaaDoorLaw
import Derived.Test.YtpenneklpolhgaaDoorLaw8
import Derived.Test.YtpenneklpolhgaaDoorMH
import Derived.Test.YtpenneklpolhgaaDoorLaidH
import Derived.Test.YtpenneklpolhgaaDoorH12
import Derived.Test.YtpenneklpolhgaaDoorH13
import Derived.Deep.RegionHeld3
namespace Go.Proofs.YtpenneklpolhgaaDoor
set_option maxRecDepth 20000
set_option linter.unusedSimpArgs false
set_option linter.unusedVariables false
open Go.ChangeShapes Go.WideShapes Go.ChangeAt Go.RowKit
set_option linter.unusedVariables false
set_option maxHeartbeats 4000000 in
theorem walk_FreeObj (v0 u0 : Value) (x0 : Hp) (r1 : P2) (w : World) (hA0 : RdAHp w v0 u0 x0) (hT : ErrTy w) :
    Calls Tryd.prog 3 #[.agg #[v0, u0], .agg #[.int .i64 r1.a, .int .i64 r1.b]] w fun e w' => e = .returned (.bool true) ∧ Below w.heap.size w w' := by
  obtain ⟨Aa0, da0, Ba0, ea0, rfl, rfl⟩ := hA0.slices
  have HAaH := Lib.hid hA0
  clear hA0
  have hqa : totHp x0 ≤ x0.g.length + x0.l.length ∧ x0.g.length + x0.l.length ≤ totHp x0 := ⟨Nat.le_refl _, Nat.le_refl _⟩
  have hqb : totHp (freeH x0 r1) ≤ totHp x0 := by have := freeH_len x0 r1; unfold totHp; omega
  have HT := Lib.hid hT
  clear hT
  have hB := Below.refl w.heap.size w
  go_enter Tryd.func3, Tryd.ntmps3
  go_wp2_with fail
  have hB' := hB.alloc hB.size (.cells #[.slice Aa0 x0.g.length da0, .slice Ba0 x0.l.length ea0] 25)
  clear hB
  have k1 := Bk.new w #[.slice Aa0 x0.g.length da0, .slice Ba0 x0.l.length ea0] 25
  have k1' := k1.alloc (.cells #[.int .i64 r1.a, .int .i64 r1.b] 27)
  clear k1
  have hB'' := hB'.alloc hB'.size (.cells #[.int .i64 r1.a, .int .i64 r1.b] 27)
  clear hB'
  have k2 := Bk.new (w.alloc (.cells #[.slice Aa0 x0.g.length da0, .slice Ba0 x0.l.length ea0] 25)) #[.int .i64 r1.a, .int .i64 r1.b] 27
  simp only [World.size_alloc] at k2
  refine (szHeap _ _ x0 (1048576) _ (HAaH.out.below hB'') (by omega) (by omega)).mono ?_
  rintro e w3 ⟨rfl, hb3⟩
  have sz4 := hb3.size
  try simp only [World.size_alloc] at sz4
  have hB''' := hB''.trans (hb3.mono hB''.size)
  clear hB''
  have k1'' := k1'.below hb3 k1'.lt
  clear k1'
  have k2' := k2.below hb3 k2.lt
  clear k2
  by_cases hn3 : (1048576 : Int) - (totHp x0) < 0
  · rw [show szF (totHp x0) (1048576) = -1 by unfold szF; rw [if_pos hn3]]
    go_wp2_with fail
    go_ret
    exact ⟨rfl, hB'''⟩
  rw [show szF (totHp x0) (1048576) = 1048576 - (totHp x0) by unfold szF; rw [if_neg hn3]]
  obtain ⟨hc1x0, gc1x0⟩ := k1''.at_ 0 (x := .slice Aa0 x0.g.length da0) rfl
  obtain ⟨hc1x1, gc1x1⟩ := k1''.at_ 1 (x := .slice Ba0 x0.l.length ea0) rfl
  have l1 := k1''.lt
  obtain ⟨hc2x0, gc2x0⟩ := k2'.at_ 0 (x := .int .i64 r1.a) rfl
  obtain ⟨hc2x1, gc2x1⟩ := k2'.at_ 1 (x := .int .i64 r1.b) rfl
  have l2 := k2'.lt
  go_wp2_with fail
  clear hc1x0 gc1x0 hc1x1 gc1x1 l1 hc2x0 gc2x0 hc2x1 gc2x1 l2
  obtain ⟨hc1x0, gc1x0⟩ := k1''.at_ 0 (x := .slice Aa0 x0.g.length da0) rfl
  obtain ⟨hc1x1, gc1x1⟩ := k1''.at_ 1 (x := .slice Ba0 x0.l.length ea0) rfl
  have l1 := k1''.lt
  obtain ⟨hc2x0, gc2x0⟩ := k2'.at_ 0 (x := .int .i64 r1.a) rfl
  obtain ⟨hc2x1, gc2x1⟩ := k2'.at_ 1 (x := .int .i64 r1.b) rfl
  have l2 := k2'.lt
  have HS5 : Hid (∀ W : World, Below w3.heap.size w3 W → Below w3.heap.size w3 W ∧ W.cell? ⟨w.heap.size, 0, none⟩ = some (.slice Aa0 x0.g.length da0) ∧ W.cell? ⟨w.heap.size, 1, none⟩ = some (.slice Ba0 x0.l.length ea0) ∧ W.cell? ⟨w.heap.size + 1, 0, none⟩ = some (.int .i64 r1.a) ∧ W.cell? ⟨w.heap.size + 1, 1, none⟩ = some (.int .i64 r1.b)) := Lib.hid fun W hW => ⟨hW, (hW.cell (p := ⟨w.heap.size, 0, none⟩) k1''.lt).trans hc1x0, (hW.cell (p := ⟨w.heap.size, 1, none⟩) k1''.lt).trans hc1x1, (hW.cell (p := ⟨w.heap.size + 1, 0, none⟩) k2'.lt).trans hc2x0, (hW.cell (p := ⟨w.heap.size + 1, 1, none⟩) k2'.lt).trans hc2x1⟩
  have KN5 : Hid (Bk ((w3.alloc (.cells #[.slice none 0 0, .slice none 0 0] 29)).drew) w3.heap.size #[.slice none 0 0, .slice none 0 0] 29) := Lib.hid (Bk.new w3 #[.slice none 0 0, .slice none 0 0] 29)
  have HN5 : Hid (Below w3.heap.size w3 (w3.alloc (.cells #[.slice none 0 0, .slice none 0 0] 29)).drew) := Lib.hid ((Below.refl _ w3).alloc (Nat.le_refl _) _).drew
  have HB5 := Lib.hid hB'''
  have nb5x1 : w.heap.size ≠ w3.heap.size := by have := k1''.lt; omega
  have nb5x2 : w.heap.size + 1 ≠ w3.heap.size := by have := k2'.lt; omega
  go_cut [6, 7] (fun p5x0 p5x1 wz => ∃ (A9 : Option Addr) (d9 : Nat) (B9 : Option Addr) (e9 : Nat) (bs9 : List Nat) (g5 : Nat), p5x0 = .pointer (some ⟨g5, 0, none⟩) ∧ p5x1 = .int .i64 (freeC x0 r1) ∧ OwnHp wz (.slice A9 (freeH x0 r1).g.length d9) (.slice B9 (freeH x0 r1).l.length e9) (freeH x0 r1) bs9 ∧ (∀ b ∈ bs9, w3.heap.size ≤ b) ∧ Bk wz g5 #[.slice A9 (freeH x0 r1).g.length d9, .slice B9 (freeH x0 r1).l.length e9] 29 ∧ w3.heap.size ≤ g5 ∧ Below w3.heap.size w3 wz)
  case first =>
    go_region_held3 (fun W => Below w3.heap.size w3 W ∧ W.cell? ⟨w.heap.size, 0, none⟩ = some (.slice Aa0 x0.g.length da0) ∧ W.cell? ⟨w.heap.size, 1, none⟩ = some (.slice Ba0 x0.l.length ea0) ∧ W.cell? ⟨w.heap.size + 1, 0, none⟩ = some (.int .i64 r1.a) ∧ W.cell? ⟨w.heap.size + 1, 1, none⟩ = some (.int .i64 r1.b)) (first | (exact HS5.out _ (Below.refl _ _).drew) | (exact HS5.out _ HN5.out) | (exact HS5.out _ (hS5x0.alloc hS5x0.size _)) | (exact HS5.out _ (hS5x1.alloc hS5x1.size _)) | (exact HS5.out _ (hS5x2.alloc hS5x2.size _)) | (exact HS5.out _ ((hS5x2.setCell (Nat.le_refl _) _).setCell (Nat.le_refl _) _)) | (exact HS5.out _ ((hS5x2.setCell hS5x0.size _).setCell hS5x0.size _)) | (exact HS5.out _ ((hS5x2.setCell hS5x1.size _).setCell hS5x1.size _)) | (exact HS5.out _ ((hS5x2.setCell hS5x2.size _).setCell hS5x2.size _)) | (exact HS5.out _ (by assumption)))
      (first
        | (go_at_call_of 8 (Value.agg #[Value.slice Aa0 x0.g.length da0, Value.slice Ba0 x0.l.length ea0] : Value); have hS := ‹Below w3.heap.size w3 _ ∧ _›.1; refine (toHeap _ _ x0 _ (HAaH.out.below (HB5.out.trans (hS.mono HB5.out.size))) (by omega)).mono ?_; rintro e w6 ⟨v6x0, v6x1, bs6, rfl, ho6, lo6, hb6⟩; have hS5x0 := hS.trans (hb6.mono hS.size); clear hS; (first | (have q5x0 := KN5.out.below hb6 KN5.out.lt) | skip))
        | (go_at_call_of 9 (Value.agg #[Value.int .i64 r1.a, Value.int .i64 r1.b] : Value); have hS := ‹Below w3.heap.size w3 _ ∧ _›.1; refine (toRef r1 _).mono ?_; rintro e w7 ⟨rfl, hb7⟩; have hS5x1 := hS.trans (hb7.mono hS.size); clear hS; (first | (have ho6 := ho6.below hb7) | (have ho6 := (ho6.below ((Below.refl _ w6).alloc (Nat.le_refl _) (.cells #[.slice none 0 0, .slice none 0 0] 29))).below hb7)); (first | (have q5x1 := q5x0.below hb7 q5x0.lt) | (have q5x1 := (Bk.new w6 #[.slice none 0 0, .slice none 0 0] 29).below hb7 (Bk.new w6 #[.slice none 0 0, .slice none 0 0] 29).lt) | skip))
        | (go_at_call 7; have hS := ‹Below w3.heap.size w3 _ ∧ _›.1; refine (spec_FreeObj _ _ x0 r1 _ ho6.rd (by omega)).mono ?_; rintro e w8 ⟨v9x0, v9x1, bs9, rfl, ho9, lo9, hb8⟩; have hS5x2 := hS.trans (hb8.mono hS.size); clear hS; obtain ⟨A9, d9, B9, e9, rfl, rfl⟩ := ho9.slices; (first | (have q5x2 := q5x1.below hb8 q5x1.lt) | (have q5x2 := (Bk.new w7 #[.slice none 0 0, .slice none 0 0] 29).below hb8 (Bk.new w7 #[.slice none 0 0, .slice none 0 0] 29).lt) | skip); try (obtain ⟨hq5, hg5⟩ := q5x2.at_ 0 (x := .slice none 0 0) rfl); try (obtain ⟨hq5b, hg5b⟩ := q5x2.at_ 1 (x := .slice none 0 0) rfl))
        | (go_at_call 7; have hS := ‹Below w3.heap.size w3 _ ∧ _›.1; refine (spec_FreeObj _ _ x0 r1 _ (ho6.below ((Below.refl _ w7).alloc (Nat.le_refl _) (.cells #[.slice none 0 0, .slice none 0 0] 29))).rd (by omega)).mono ?_; rintro e w8 ⟨v9x0, v9x1, bs9, rfl, ho9, lo9, hb8⟩; have hS5x2 := hS.trans (hb8.mono hS.size); clear hS; obtain ⟨A9, d9, B9, e9, rfl, rfl⟩ := ho9.slices; (first | (have q5x2 := q5x1.below hb8 q5x1.lt) | (have q5x2 := (Bk.new w7 #[.slice none 0 0, .slice none 0 0] 29).below hb8 (Bk.new w7 #[.slice none 0 0, .slice none 0 0] 29).lt) | skip); try (obtain ⟨hq5, hg5⟩ := q5x2.at_ 0 (x := .slice none 0 0) rfl); try (obtain ⟨hq5b, hg5b⟩ := q5x2.at_ 1 (x := .slice none 0 0) rfl)))
    all_goals go_wp2_with fail
    all_goals go_meet
    all_goals (try have s5w6 := hS5x0.size)
    all_goals (try have s5w7 := hS5x1.size)
    all_goals (try have t5hb6 := hb6.size)
    all_goals (try simp at t5hb6)
    all_goals (try have t5hb7 := hb7.size)
    all_goals (try simp at t5hb7)
    all_goals (try have t5hb8 := hb8.size)
    all_goals (try simp at t5hb8)
    all_goals (first | exact ⟨A9, d9, B9, e9, bs9, _, rfl, rfl, ho9.below ((Below.refl _ _).alloc (Nat.le_refl _) _), fun b hb => Nat.le_trans (by first | omega | (simp; omega) | simp) (lo9 b hb), Bk.new _ _ _, hS5x2.size, hS5x2.alloc hS5x2.size _⟩ | exact ⟨A9, d9, B9, e9, bs9, _, rfl, rfl, (ho9.far (fun k hk => by have := lo9 k hk; (try simp only [World.size_alloc] at this); omega)).far (fun k hk => by have := lo9 k hk; (try simp only [World.size_alloc] at this); omega), fun b hb => Nat.le_trans (by first | omega | (simp; omega) | simp) (lo9 b hb), by simpa using (q5x2.set_ 0 (.slice A9 (freeH x0 r1).g.length d9)).set_ 1 (.slice B9 (freeH x0 r1).l.length e9), by first | exact Nat.le_refl _ | omega, (hS5x2.setCell (by first | exact Nat.le_refl _ | (show w3.heap.size ≤ _; omega)) _).setCell (by first | exact Nat.le_refl _ | (show w3.heap.size ≤ _; omega)) _⟩)
  obtain ⟨A9, d9, B9, e9, bs9, g5, rfl, rfl, ho9, lo9, kg5, hgl5, hBc5⟩ := hcut
  rename World => wc5
  have hgt5 := kg5.lt
  clear HS5 KN5 HN5 HB5 nb5x1 nb5x2
  clear hc1x0 gc1x0 hc1x1 gc1x1 l1 hc2x0 gc2x0 hc2x1 gc2x1 l2
  have sz10 := hBc5.size
  try simp only [World.size_alloc] at sz10
  have hB'''' := hB'''.trans (hBc5.mono hB'''.size)
  clear hB'''
  have k1''' := k1''.below hBc5 k1''.lt
  clear k1''
  have k2'' := k2'.below hBc5 k2'.lt
  clear k2'
  have hi9 := ho9.lt
  obtain ⟨hc1x0, gc1x0⟩ := k1'''.at_ 0 (x := .slice Aa0 x0.g.length da0) rfl
  obtain ⟨hc1x1, gc1x1⟩ := k1'''.at_ 1 (x := .slice Ba0 x0.l.length ea0) rfl
  have l1 := k1'''.lt
  obtain ⟨hc2x0, gc2x0⟩ := k2''.at_ 0 (x := .int .i64 r1.a) rfl
  obtain ⟨hc2x1, gc2x1⟩ := k2''.at_ 1 (x := .int .i64 r1.b) rfl
  have l2 := k2''.lt
  obtain ⟨hc5x0, gc5x0⟩ := kg5.at_ 0 (x := .slice A9 (freeH x0 r1).g.length d9) rfl
  obtain ⟨hc5x1, gc5x1⟩ := kg5.at_ 1 (x := .slice B9 (freeH x0 r1).l.length e9) rfl
  have l5 := kg5.lt
  go_wp2_with fail
  refine (toHeap _ _ x0 _ (HAaH.out.below hB'''') (by omega)).mono ?_
  rintro e w11 ⟨v11x0, v11x1, bs11, rfl, ho11, lo11, hb11⟩
  clear hc1x0 gc1x0 hc1x1 gc1x1 l1 hc2x0 gc2x0 hc2x1 gc2x1 l2 hc5x0 gc5x0 hc5x1 gc5x1 l5
  have sz12 := hb11.size
  try simp only [World.size_alloc] at sz12
  have hB''''' := hB''''.trans (hb11.mono hB''''.size)
  clear hB''''
  have k1'''' := k1'''.below hb11 k1'''.lt
  clear k1'''
  have k2''' := k2''.below hb11 k2''.lt
  clear k2''
  have kg5' := kg5.below hb11 kg5.lt
  clear kg5
  have ho9' := ho9.below hb11
  clear ho9
  have hi11 := ho11.lt
  try simp only [World.size_alloc] at lo11
  obtain ⟨A11, d11, B11, e11, rfl, rfl⟩ := ho11.slices
  obtain ⟨hc1x0, gc1x0⟩ := k1''''.at_ 0 (x := .slice Aa0 x0.g.length da0) rfl
  obtain ⟨hc1x1, gc1x1⟩ := k1''''.at_ 1 (x := .slice Ba0 x0.l.length ea0) rfl
  have l1 := k1''''.lt
  obtain ⟨hc2x0, gc2x0⟩ := k2'''.at_ 0 (x := .int .i64 r1.a) rfl
  obtain ⟨hc2x1, gc2x1⟩ := k2'''.at_ 1 (x := .int .i64 r1.b) rfl
  have l2 := k2'''.lt
  obtain ⟨hc5x0, gc5x0⟩ := kg5'.at_ 0 (x := .slice A9 (freeH x0 r1).g.length d9) rfl
  obtain ⟨hc5x1, gc5x1⟩ := kg5'.at_ 1 (x := .slice B9 (freeH x0 r1).l.length e9) rfl
  have l5 := kg5'.lt
  go_wp2_with fail
  clear hc1x0 gc1x0 hc1x1 gc1x1 l1 hc2x0 gc2x0 hc2x1 gc2x1 l2 hc5x0 gc5x0 hc5x1 gc5x1 l5
  have k1''''' := k1''''.alloc (.cells #[.slice A11 x0.g.length d11, .slice B11 x0.l.length e11] 29)
  clear k1''''
  have k2'''' := k2'''.alloc (.cells #[.slice A11 x0.g.length d11, .slice B11 x0.l.length e11] 29)
  clear k2'''
  have kg5'' := kg5'.alloc (.cells #[.slice A11 x0.g.length d11, .slice B11 x0.l.length e11] 29)
  clear kg5'
  have ho9'' := ho9'.below ((Below.refl _ _).alloc (Nat.le_refl _) (.cells #[.slice A11 x0.g.length d11, .slice B11 x0.l.length e11] 29))
  clear ho9'
  have ho11' := ho11.below ((Below.refl _ _).alloc (Nat.le_refl _) (.cells #[.slice A11 x0.g.length d11, .slice B11 x0.l.length e11] 29))
  clear ho11
  have hB'''''' := hB'''''.alloc hB'''''.size (.cells #[.slice A11 x0.g.length d11, .slice B11 x0.l.length e11] 29)
  clear hB'''''
  have k13 := Bk.new w11 #[.slice A11 x0.g.length d11, .slice B11 x0.l.length e11] 29
  obtain ⟨wq14, hwq14⟩ : ∃ wq, wq = (w11.alloc (.cells #[.slice A11 x0.g.length d11, .slice B11 x0.l.length e11] 29)) := ⟨_, rfl⟩
  rw [← hwq14] at hB'''''' k1''''' k2'''' kg5'' k13 ho9'' ho11' ⊢
  clear hwq14
  obtain ⟨hc1x0, gc1x0⟩ := k1'''''.at_ 0 (x := .slice Aa0 x0.g.length da0) rfl
  obtain ⟨hc1x1, gc1x1⟩ := k1'''''.at_ 1 (x := .slice Ba0 x0.l.length ea0) rfl
  have l1 := k1'''''.lt
  obtain ⟨hc2x0, gc2x0⟩ := k2''''.at_ 0 (x := .int .i64 r1.a) rfl
  obtain ⟨hc2x1, gc2x1⟩ := k2''''.at_ 1 (x := .int .i64 r1.b) rfl
  have l2 := k2''''.lt
  obtain ⟨hc5x0, gc5x0⟩ := kg5''.at_ 0 (x := .slice A9 (freeH x0 r1).g.length d9) rfl
  obtain ⟨hc5x1, gc5x1⟩ := kg5''.at_ 1 (x := .slice B9 (freeH x0 r1).l.length e9) rfl
  have l5 := kg5''.lt
  obtain ⟨hc13x0, gc13x0⟩ := k13.at_ 0 (x := .slice A11 x0.g.length d11) rfl
  obtain ⟨hc13x1, gc13x1⟩ := k13.at_ 1 (x := .slice B11 x0.l.length e11) rfl
  have l13 := k13.lt
  have lw15x1 := k1'''''.lt
  have lw15x2 := k2''''.lt
  have lw15x5 := kg5''.lt
  have lw15x13 := k13.lt
  have HS15 : Hid (∀ W : World, Below wq14.heap.size wq14 W → Below wq14.heap.size wq14 W ∧ W.cell? ⟨w11.heap.size, 0, none⟩ = some (.slice A11 x0.g.length d11) ∧ W.cell? ⟨w11.heap.size, 1, none⟩ = some (.slice B11 x0.l.length e11) ∧ W.cell? ⟨w.heap.size + 1, 0, none⟩ = some (.int .i64 r1.a) ∧ W.cell? ⟨w.heap.size + 1, 1, none⟩ = some (.int .i64 r1.b)) := Lib.hid fun W hW => ⟨hW, (hW.cell (p := ⟨w11.heap.size, 0, none⟩) k13.lt).trans hc13x0, (hW.cell (p := ⟨w11.heap.size, 1, none⟩) k13.lt).trans hc13x1, (hW.cell (p := ⟨w.heap.size + 1, 0, none⟩) k2''''.lt).trans hc2x0, (hW.cell (p := ⟨w.heap.size + 1, 1, none⟩) k2''''.lt).trans hc2x1⟩
  have KN15 : Hid (Bk ((wq14.alloc (.cells #[.slice none 0 0, .slice none 0 0] 29)).drew) wq14.heap.size #[.slice none 0 0, .slice none 0 0] 29) := Lib.hid (Bk.new wq14 #[.slice none 0 0, .slice none 0 0] 29)
  have HN15 : Hid (Below wq14.heap.size wq14 (wq14.alloc (.cells #[.slice none 0 0, .slice none 0 0] 29)).drew) := Lib.hid ((Below.refl _ wq14).alloc (Nat.le_refl _) _).drew
  have HB15 := Lib.hid hB''''''
  have nb15x13 : w11.heap.size ≠ wq14.heap.size := by have := k13.lt; omega
  have nb15x2 : w.heap.size + 1 ≠ wq14.heap.size := by have := k2''''.lt; omega
  go_cut [9, 10] (fun p15x0 p15x1 wz => ∃ (A18 : Option Addr) (d18 : Nat) (B18 : Option Addr) (e18 : Nat) (bs18 : List Nat) (g15 : Nat), p15x0 = .pointer (some ⟨g15, 0, none⟩) ∧ p15x1 = .int .i64 (freeC x0 r1) ∧ OwnHp wz (.slice A18 (freeH x0 r1).g.length d18) (.slice B18 (freeH x0 r1).l.length e18) (freeH x0 r1) bs18 ∧ (∀ b ∈ bs18, wq14.heap.size ≤ b) ∧ Bk wz g15 #[.slice A18 (freeH x0 r1).g.length d18, .slice B18 (freeH x0 r1).l.length e18] 29 ∧ wq14.heap.size ≤ g15 ∧ Below wq14.heap.size wq14 wz ∧ g15 ∉ bs18)
  case first =>
    go_region_held3 (fun W => Below wq14.heap.size wq14 W ∧ W.cell? ⟨w11.heap.size, 0, none⟩ = some (.slice A11 x0.g.length d11) ∧ W.cell? ⟨w11.heap.size, 1, none⟩ = some (.slice B11 x0.l.length e11) ∧ W.cell? ⟨w.heap.size + 1, 0, none⟩ = some (.int .i64 r1.a) ∧ W.cell? ⟨w.heap.size + 1, 1, none⟩ = some (.int .i64 r1.b)) (first | (exact HS15.out _ (Below.refl _ _).drew) | (exact HS15.out _ HN15.out) | (exact HS15.out _ (hS15x0.alloc hS15x0.size _)) | (exact HS15.out _ (hS15x1.alloc hS15x1.size _)) | (exact HS15.out _ ((hS15x1.setCell (Nat.le_refl _) _).setCell (Nat.le_refl _) _)) | (exact HS15.out _ ((hS15x1.setCell hS15x0.size _).setCell hS15x0.size _)) | (exact HS15.out _ ((hS15x1.setCell hS15x1.size _).setCell hS15x1.size _)) | (exact HS15.out _ (by assumption)))
      (first
        | (go_at_call_of 9 (Value.agg #[Value.int .i64 r1.a, Value.int .i64 r1.b] : Value); have hS := ‹Below wq14.heap.size wq14 _ ∧ _›.1; refine (toRef r1 _).mono ?_; rintro e w16 ⟨rfl, hb16⟩; have hS15x0 := hS.trans (hb16.mono hS.size); clear hS; (first | (have q15x0 := KN15.out.below hb16 KN15.out.lt) | skip))
        | (go_at_call 10; have hS := ‹Below wq14.heap.size wq14 _ ∧ _›.1; refine (impl_FreeObj _ _ x0 r1 _ (ho11'.below hS).rd (by omega) (HT.out.below (HB15.out.trans (hS.mono HB15.out.size)) (Nat.le_refl _))).mono ?_; rintro e w17 ⟨v18x0, v18x1, bs18, rfl, ho18, lo18, hb17⟩; have hS15x1 := hS.trans (hb17.mono hS.size); clear hS; obtain ⟨A18, d18, B18, e18, rfl, rfl⟩ := ho18.slices; (first | (have q15x1 := q15x0.below hb17 q15x0.lt) | (have q15x1 := (Bk.new w16 #[.slice none 0 0, .slice none 0 0] 29).below hb17 (Bk.new w16 #[.slice none 0 0, .slice none 0 0] 29).lt) | skip); try (obtain ⟨hq15, hg15⟩ := q15x1.at_ 0 (x := .slice none 0 0) rfl); try (obtain ⟨hq15b, hg15b⟩ := q15x1.at_ 1 (x := .slice none 0 0) rfl)))
    all_goals go_wp2_with fail
    all_goals go_meet
    all_goals (try have s15w16 := hS15x0.size)
    all_goals (try have t15hb16 := hb16.size)
    all_goals (try simp at t15hb16)
    all_goals (try have t15hb17 := hb17.size)
    all_goals (try simp at t15hb17)
    all_goals (first | exact ⟨A18, d18, B18, e18, bs18, _, rfl, rfl, ho18.below ((Below.refl _ _).alloc (Nat.le_refl _) _), fun b hb => Nat.le_trans (by first | omega | (simp; omega) | simp) (lo18 b hb), Bk.new _ _ _, hS15x1.size, hS15x1.alloc hS15x1.size _, fun hm => by have := ho18.lt _ hm; first | omega | (simp at this; omega)⟩ | exact ⟨A18, d18, B18, e18, bs18, _, rfl, rfl, (ho18.far (fun k hk => by have := lo18 k hk; (try simp only [World.size_alloc] at this); omega)).far (fun k hk => by have := lo18 k hk; (try simp only [World.size_alloc] at this); omega), fun b hb => Nat.le_trans (by first | omega | (simp; omega) | simp) (lo18 b hb), by simpa using (q15x1.set_ 0 (.slice A18 (freeH x0 r1).g.length d18)).set_ 1 (.slice B18 (freeH x0 r1).l.length e18), by first | exact Nat.le_refl _ | omega, (hS15x1.setCell (by first | exact Nat.le_refl _ | (show wq14.heap.size ≤ _; omega)) _).setCell (by first | exact Nat.le_refl _ | (show wq14.heap.size ≤ _; omega)) _, fun hm => by have := lo18 _ hm; (try simp only [World.size_alloc] at this); omega⟩)
  obtain ⟨A18, d18, B18, e18, bs18, g15, rfl, rfl, ho18, lo18, kg15, hgl15, hBc15, ng15⟩ := hcut
  rename World => wc15
  have hgt15 := kg15.lt
  clear HS15 KN15 HN15 HB15 nb15x13 nb15x2
  clear hc1x0 gc1x0 hc1x1 gc1x1 l1 hc2x0 gc2x0 hc2x1 gc2x1 l2 hc5x0 gc5x0 hc5x1 gc5x1 l5 hc13x0 gc13x0 hc13x1 gc13x1 l13
  have sz19 := hBc15.size
  try simp only [World.size_alloc] at sz19
  have hB''''''' := hB''''''.trans (hBc15.mono hB''''''.size)
  clear hB''''''
  have k1'''''' := k1'''''.below hBc15 k1'''''.lt
  clear k1'''''
  have k2''''' := k2''''.below hBc15 k2''''.lt
  clear k2''''
  have kg5''' := kg5''.below hBc15 kg5''.lt
  clear kg5''
  have k13' := k13.below hBc15 k13.lt
  clear k13
  have ho9''' := ho9''.below hBc15
  clear ho9''
  have ho11'' := ho11'.below hBc15
  clear ho11'
  have hi18 := ho18.lt
  obtain ⟨hc1x0, gc1x0⟩ := k1''''''.at_ 0 (x := .slice Aa0 x0.g.length da0) rfl
  obtain ⟨hc1x1, gc1x1⟩ := k1''''''.at_ 1 (x := .slice Ba0 x0.l.length ea0) rfl
  have l1 := k1''''''.lt
  obtain ⟨hc2x0, gc2x0⟩ := k2'''''.at_ 0 (x := .int .i64 r1.a) rfl
  obtain ⟨hc2x1, gc2x1⟩ := k2'''''.at_ 1 (x := .int .i64 r1.b) rfl
  have l2 := k2'''''.lt
  obtain ⟨hc5x0, gc5x0⟩ := kg5'''.at_ 0 (x := .slice A9 (freeH x0 r1).g.length d9) rfl
  obtain ⟨hc5x1, gc5x1⟩ := kg5'''.at_ 1 (x := .slice B9 (freeH x0 r1).l.length e9) rfl
  have l5 := kg5'''.lt
  obtain ⟨hc13x0, gc13x0⟩ := k13'.at_ 0 (x := .slice A11 x0.g.length d11) rfl
  obtain ⟨hc13x1, gc13x1⟩ := k13'.at_ 1 (x := .slice B11 x0.l.length e11) rfl
  have l13 := k13'.lt
  obtain ⟨hc15x0, gc15x0⟩ := kg15.at_ 0 (x := .slice A18 (freeH x0 r1).g.length d18) rfl
  obtain ⟨hc15x1, gc15x1⟩ := kg15.at_ 1 (x := .slice B18 (freeH x0 r1).l.length e18) rfl
  have l15 := kg15.lt
  go_wp2_with fail
  refine (eqHeap _ _ _ _ ((freeH x0 r1)) ((freeH x0 r1)) _ ho18.rd ho9'''.rd).mono ?_
  rintro e w20 ⟨rfl, hb20⟩
  rw [decide_eq_true rfl]
  clear hc1x0 gc1x0 hc1x1 gc1x1 l1 hc2x0 gc2x0 hc2x1 gc2x1 l2 hc5x0 gc5x0 hc5x1 gc5x1 l5 hc13x0 gc13x0 hc13x1 gc13x1 l13 hc15x0 gc15x0 hc15x1 gc15x1 l15
  have sz21 := hb20.size
  try simp only [World.size_alloc] at sz21
  have hB'''''''' := hB'''''''.trans (hb20.mono hB'''''''.size)
  clear hB'''''''
  have k1''''''' := k1''''''.below hb20 k1''''''.lt
  clear k1''''''
  have k2'''''' := k2'''''.below hb20 k2'''''.lt
  clear k2'''''
  have kg5'''' := kg5'''.below hb20 kg5'''.lt
  clear kg5'''
  have k13'' := k13'.below hb20 k13'.lt
  clear k13'
  have kg15' := kg15.below hb20 kg15.lt
  clear kg15
  have ho9'''' := ho9'''.below hb20
  clear ho9'''
  have ho11''' := ho11''.below hb20
  clear ho11''
  have ho18' := ho18.below hb20
  clear ho18
  obtain ⟨hc1x0, gc1x0⟩ := k1'''''''.at_ 0 (x := .slice Aa0 x0.g.length da0) rfl
  obtain ⟨hc1x1, gc1x1⟩ := k1'''''''.at_ 1 (x := .slice Ba0 x0.l.length ea0) rfl
  have l1 := k1'''''''.lt
  obtain ⟨hc2x0, gc2x0⟩ := k2''''''.at_ 0 (x := .int .i64 r1.a) rfl
  obtain ⟨hc2x1, gc2x1⟩ := k2''''''.at_ 1 (x := .int .i64 r1.b) rfl
  have l2 := k2''''''.lt
  obtain ⟨hc5x0, gc5x0⟩ := kg5''''.at_ 0 (x := .slice A9 (freeH x0 r1).g.length d9) rfl
  obtain ⟨hc5x1, gc5x1⟩ := kg5''''.at_ 1 (x := .slice B9 (freeH x0 r1).l.length e9) rfl
  have l5 := kg5''''.lt
  obtain ⟨hc13x0, gc13x0⟩ := k13''.at_ 0 (x := .slice A11 x0.g.length d11) rfl
  obtain ⟨hc13x1, gc13x1⟩ := k13''.at_ 1 (x := .slice B11 x0.l.length e11) rfl
  have l13 := k13''.lt
  obtain ⟨hc15x0, gc15x0⟩ := kg15'.at_ 0 (x := .slice A18 (freeH x0 r1).g.length d18) rfl
  obtain ⟨hc15x1, gc15x1⟩ := kg15'.at_ 1 (x := .slice B18 (freeH x0 r1).l.length e18) rfl
  have l15 := kg15'.lt
  go_wp2_with fail
  clear hc1x0 gc1x0 hc1x1 gc1x1 l1 hc2x0 gc2x0 hc2x1 gc2x1 l2 hc5x0 gc5x0 hc5x1 gc5x1 l5 hc13x0 gc13x0 hc13x1 gc13x1 l13 hc15x0 gc15x0 hc15x1 gc15x1 l15
  obtain ⟨hc1x0, gc1x0⟩ := k1'''''''.at_ 0 (x := .slice Aa0 x0.g.length da0) rfl
  obtain ⟨hc1x1, gc1x1⟩ := k1'''''''.at_ 1 (x := .slice Ba0 x0.l.length ea0) rfl
  have l1 := k1'''''''.lt
  obtain ⟨hc2x0, gc2x0⟩ := k2''''''.at_ 0 (x := .int .i64 r1.a) rfl
  obtain ⟨hc2x1, gc2x1⟩ := k2''''''.at_ 1 (x := .int .i64 r1.b) rfl
  have l2 := k2''''''.lt
  obtain ⟨hc5x0, gc5x0⟩ := kg5''''.at_ 0 (x := .slice A9 (freeH x0 r1).g.length d9) rfl
  obtain ⟨hc5x1, gc5x1⟩ := kg5''''.at_ 1 (x := .slice B9 (freeH x0 r1).l.length e9) rfl
  have l5 := kg5''''.lt
  obtain ⟨hc13x0, gc13x0⟩ := k13''.at_ 0 (x := .slice A11 x0.g.length d11) rfl
  obtain ⟨hc13x1, gc13x1⟩ := k13''.at_ 1 (x := .slice B11 x0.l.length e11) rfl
  have l13 := k13''.lt
  obtain ⟨hc15x0, gc15x0⟩ := kg15'.at_ 0 (x := .slice A18 (freeH x0 r1).g.length d18) rfl
  obtain ⟨hc15x1, gc15x1⟩ := kg15'.at_ 1 (x := .slice B18 (freeH x0 r1).l.length e18) rfl
  have l15 := kg15'.lt
  have HS23 : Hid (∀ W : World, Below w20.heap.size w20 W → Below w20.heap.size w20 W ∧ W.cell? ⟨w11.heap.size, 0, none⟩ = some (.slice A11 x0.g.length d11) ∧ W.cell? ⟨w11.heap.size, 1, none⟩ = some (.slice B11 x0.l.length e11) ∧ W.cell? ⟨w.heap.size, 0, none⟩ = some (.slice Aa0 x0.g.length da0) ∧ W.cell? ⟨w.heap.size, 1, none⟩ = some (.slice Ba0 x0.l.length ea0)) := Lib.hid fun W hW => ⟨hW, (hW.cell (p := ⟨w11.heap.size, 0, none⟩) k13''.lt).trans hc13x0, (hW.cell (p := ⟨w11.heap.size, 1, none⟩) k13''.lt).trans hc13x1, (hW.cell (p := ⟨w.heap.size, 0, none⟩) k1'''''''.lt).trans hc1x0, (hW.cell (p := ⟨w.heap.size, 1, none⟩) k1'''''''.lt).trans hc1x1⟩
  have HhB________ := Lib.hid hB''''''''
  have Hho9____ := Lib.hid ho9''''
  have Hho11___ := Lib.hid ho11'''
  have Hho18_ := Lib.hid ho18'
  go_region_held3 (fun W => Below w20.heap.size w20 W ∧ W.cell? ⟨w11.heap.size, 0, none⟩ = some (.slice A11 x0.g.length d11) ∧ W.cell? ⟨w11.heap.size, 1, none⟩ = some (.slice B11 x0.l.length e11) ∧ W.cell? ⟨w.heap.size, 0, none⟩ = some (.slice Aa0 x0.g.length da0) ∧ W.cell? ⟨w.heap.size, 1, none⟩ = some (.slice Ba0 x0.l.length ea0)) (first | (exact HS23.out _ (Below.refl _ _).drew) | (exact HS23.out _ (by assumption)))
    (first
      | (go_at_call 8; have hS := ‹Below w20.heap.size w20 _ ∧ _›.1; refine (toHeap _ _ x0 _ (HAaH.out.below (HhB________.out.trans (hS.mono HhB________.out.size))) (by omega)).mono ?_; rintro e wa22 ⟨vv0, vv1, bsw, rfl, how, low, hbw22⟩; have HO22 := Lib.hid how; clear how low; have hS23x0 := hS.trans (hbw22.mono hS.size); clear hS)
      | (go_at_call 11; have hS := ‹Below w20.heap.size w20 _ ∧ _›.1; refine (eqHeap _ _ _ _ (x0) (x0) _ (Hho11___.out.below hS).rd HO22.out.rd).mono ?_; rintro e w22 ⟨rfl, hbe22⟩; have hS23x1 := hS.trans (hbe22.mono hS.size); clear hS))
  have hS23 := ‹Below w20.heap.size w20 _ ∧ _›.1
  clear HS23 HhB________ Hho9____ Hho11___ Hho18_
  clear hc1x0 gc1x0 hc1x1 gc1x1 l1 hc2x0 gc2x0 hc2x1 gc2x1 l2 hc5x0 gc5x0 hc5x1 gc5x1 l5 hc13x0 gc13x0 hc13x1 gc13x1 l13 hc15x0 gc15x0 hc15x1 gc15x1 l15
  have sz24 := hS23.size
  try simp only [World.size_alloc] at sz24
  have hB''''''''' := hB''''''''.trans (hS23.mono hB''''''''.size)
  clear hB''''''''
  have k1'''''''' := k1'''''''.below hS23 k1'''''''.lt
  clear k1'''''''
  have k2''''''' := k2''''''.below hS23 k2''''''.lt
  clear k2''''''
  have kg5''''' := kg5''''.below hS23 kg5''''.lt
  clear kg5''''
  have k13''' := k13''.below hS23 k13''.lt
  clear k13''
  have kg15'' := kg15'.below hS23 kg15'.lt
  clear kg15'
  have ho9''''' := ho9''''.below hS23
  clear ho9''''
  have ho11'''' := ho11'''.below hS23
  clear ho11'''
  have ho18'' := ho18'.below hS23
  clear ho18'
  clear hS23
  clear HO22
  obtain ⟨hc1x0, gc1x0⟩ := k1''''''''.at_ 0 (x := .slice Aa0 x0.g.length da0) rfl
  obtain ⟨hc1x1, gc1x1⟩ := k1''''''''.at_ 1 (x := .slice Ba0 x0.l.length ea0) rfl
  have l1 := k1''''''''.lt
  obtain ⟨hc2x0, gc2x0⟩ := k2'''''''.at_ 0 (x := .int .i64 r1.a) rfl
  obtain ⟨hc2x1, gc2x1⟩ := k2'''''''.at_ 1 (x := .int .i64 r1.b) rfl
  have l2 := k2'''''''.lt
  obtain ⟨hc5x0, gc5x0⟩ := kg5'''''.at_ 0 (x := .slice A9 (freeH x0 r1).g.length d9) rfl
  obtain ⟨hc5x1, gc5x1⟩ := kg5'''''.at_ 1 (x := .slice B9 (freeH x0 r1).l.length e9) rfl
  have l5 := kg5'''''.lt
  obtain ⟨hc13x0, gc13x0⟩ := k13'''.at_ 0 (x := .slice A11 x0.g.length d11) rfl
  obtain ⟨hc13x1, gc13x1⟩ := k13'''.at_ 1 (x := .slice B11 x0.l.length e11) rfl
  have l13 := k13'''.lt
  obtain ⟨hc15x0, gc15x0⟩ := kg15''.at_ 0 (x := .slice A18 (freeH x0 r1).g.length d18) rfl
  obtain ⟨hc15x1, gc15x1⟩ := kg15''.at_ 1 (x := .slice B18 (freeH x0 r1).l.length e18) rfl
  have l15 := kg15''.lt
  go_wp2_with fail
  refine (markHeap _ _ x0 bs11 (1) _ ho11'''' (by omega) (by omega) (by omega)).mono ?_
  rintro e w25 ⟨rfl, hq25, hon25⟩
  clear hc1x0 gc1x0 hc1x1 gc1x1 l1 hc2x0 gc2x0 hc2x1 gc2x1 l2 hc5x0 gc5x0 hc5x1 gc5x1 l5 hc13x0 gc13x0 hc13x1 gc13x1 l13 hc15x0 gc15x0 hc15x1 gc15x1 l15
  have sz26 := hon25.size
  try simp only [World.size_alloc] at sz26
  have hB'''''''''' := hB'''''''''.trans (hon25.below hB'''''''''.size (fun b hb => by have := lo11 b hb; omega))
  clear hB'''''''''
  have k1''''''''' := k1''''''''.only hon25 (fun hm => by have := lo11 _ hm; have := hi11 _ hm; omega)
  clear k1''''''''
  have k2'''''''' := k2'''''''.only hon25 (fun hm => by have := lo11 _ hm; have := hi11 _ hm; omega)
  clear k2'''''''
  have kg5'''''' := kg5'''''.only hon25 (fun hm => by have := lo11 _ hm; have := hi11 _ hm; omega)
  clear kg5'''''
  have k13'''' := k13'''.only hon25 (fun hm => by have := lo11 _ hm; have := hi11 _ hm; omega)
  clear k13'''
  have kg15''' := kg15''.only hon25 (fun hm => by have := lo11 _ hm; have := hi11 _ hm; omega)
  clear kg15''
  have ho9'''''' := ho9'''''.only hon25 (fun b hb hm => by have := lo11 b hm; have := hi11 b hm; have := lo9 b hb; have := hi9 b hb; omega)
  clear ho9'''''
  have ho18''' := ho18''.only hon25 (fun b hb hm => by have := lo11 b hm; have := hi11 b hm; have := lo18 b hb; have := hi18 b hb; omega)
  clear ho18''
  obtain ⟨hc1x0, gc1x0⟩ := k1'''''''''.at_ 0 (x := .slice Aa0 x0.g.length da0) rfl
  obtain ⟨hc1x1, gc1x1⟩ := k1'''''''''.at_ 1 (x := .slice Ba0 x0.l.length ea0) rfl
  have l1 := k1'''''''''.lt
  obtain ⟨hc2x0, gc2x0⟩ := k2''''''''.at_ 0 (x := .int .i64 r1.a) rfl
  obtain ⟨hc2x1, gc2x1⟩ := k2''''''''.at_ 1 (x := .int .i64 r1.b) rfl
  have l2 := k2''''''''.lt
  obtain ⟨hc5x0, gc5x0⟩ := kg5''''''.at_ 0 (x := .slice A9 (freeH x0 r1).g.length d9) rfl
  obtain ⟨hc5x1, gc5x1⟩ := kg5''''''.at_ 1 (x := .slice B9 (freeH x0 r1).l.length e9) rfl
  have l5 := kg5''''''.lt
  obtain ⟨hc13x0, gc13x0⟩ := k13''''.at_ 0 (x := .slice A11 x0.g.length d11) rfl
  obtain ⟨hc13x1, gc13x1⟩ := k13''''.at_ 1 (x := .slice B11 x0.l.length e11) rfl
  have l13 := k13''''.lt
  obtain ⟨hc15x0, gc15x0⟩ := kg15'''.at_ 0 (x := .slice A18 (freeH x0 r1).g.length d18) rfl
  obtain ⟨hc15x1, gc15x1⟩ := kg15'''.at_ 1 (x := .slice B18 (freeH x0 r1).l.length e18) rfl
  have l15 := kg15'''.lt
  go_wp2_with fail
  refine (eqHeap _ _ _ _ ((freeH x0 r1)) ((freeH x0 r1)) _ ho18'''.rd ho9''''''.rd).mono ?_
  rintro e w27 ⟨rfl, hb27⟩
  rw [decide_eq_true rfl]
  clear hc1x0 gc1x0 hc1x1 gc1x1 l1 hc2x0 gc2x0 hc2x1 gc2x1 l2 hc5x0 gc5x0 hc5x1 gc5x1 l5 hc13x0 gc13x0 hc13x1 gc13x1 l13 hc15x0 gc15x0 hc15x1 gc15x1 l15
  have sz28 := hb27.size
  try simp only [World.size_alloc] at sz28
  have hB''''''''''' := hB''''''''''.trans (hb27.mono hB''''''''''.size)
  clear hB''''''''''
  have k1'''''''''' := k1'''''''''.below hb27 k1'''''''''.lt
  clear k1'''''''''
  have k2''''''''' := k2''''''''.below hb27 k2''''''''.lt
  clear k2''''''''
  have kg5''''''' := kg5''''''.below hb27 kg5''''''.lt
  clear kg5''''''
  have k13''''' := k13''''.below hb27 k13''''.lt
  clear k13''''
  have kg15'''' := kg15'''.below hb27 kg15'''.lt
  clear kg15'''
  have ho9''''''' := ho9''''''.below hb27
  clear ho9''''''
  have hq25' := hq25.below hb27
  clear hq25
  have ho18'''' := ho18'''.below hb27
  clear ho18'''
  obtain ⟨hc1x0, gc1x0⟩ := k1''''''''''.at_ 0 (x := .slice Aa0 x0.g.length da0) rfl
  obtain ⟨hc1x1, gc1x1⟩ := k1''''''''''.at_ 1 (x := .slice Ba0 x0.l.length ea0) rfl
  have l1 := k1''''''''''.lt
  obtain ⟨hc2x0, gc2x0⟩ := k2'''''''''.at_ 0 (x := .int .i64 r1.a) rfl
  obtain ⟨hc2x1, gc2x1⟩ := k2'''''''''.at_ 1 (x := .int .i64 r1.b) rfl
  have l2 := k2'''''''''.lt
  obtain ⟨hc5x0, gc5x0⟩ := kg5'''''''.at_ 0 (x := .slice A9 (freeH x0 r1).g.length d9) rfl
  obtain ⟨hc5x1, gc5x1⟩ := kg5'''''''.at_ 1 (x := .slice B9 (freeH x0 r1).l.length e9) rfl
  have l5 := kg5'''''''.lt
  obtain ⟨hc13x0, gc13x0⟩ := k13'''''.at_ 0 (x := .slice A11 x0.g.length d11) rfl
  obtain ⟨hc13x1, gc13x1⟩ := k13'''''.at_ 1 (x := .slice B11 x0.l.length e11) rfl
  have l13 := k13'''''.lt
  obtain ⟨hc15x0, gc15x0⟩ := kg15''''.at_ 0 (x := .slice A18 (freeH x0 r1).g.length d18) rfl
  obtain ⟨hc15x1, gc15x1⟩ := kg15''''.at_ 1 (x := .slice B18 (freeH x0 r1).l.length e18) rfl
  have l15 := kg15''''.lt
  go_wp2_with fail
  refine (markHeap _ _ (freeH x0 r1) bs18 (1) _ ho18'''' (by omega) (by omega) (by omega)).mono ?_
  rintro e w29 ⟨rfl, hq29, hon29⟩
  clear hc1x0 gc1x0 hc1x1 gc1x1 l1 hc2x0 gc2x0 hc2x1 gc2x1 l2 hc5x0 gc5x0 hc5x1 gc5x1 l5 hc13x0 gc13x0 hc13x1 gc13x1 l13 hc15x0 gc15x0 hc15x1 gc15x1 l15
  have sz30 := hon29.size
  try simp only [World.size_alloc] at sz30
  have hB'''''''''''' := hB'''''''''''.trans (hon29.below hB'''''''''''.size (fun b hb => by have := lo18 b hb; omega))
  clear hB'''''''''''
  have k1''''''''''' := k1''''''''''.only hon29 (fun hm => by have := lo18 _ hm; have := hi18 _ hm; omega)
  clear k1''''''''''
  have k2'''''''''' := k2'''''''''.only hon29 (fun hm => by have := lo18 _ hm; have := hi18 _ hm; omega)
  clear k2'''''''''
  have kg5'''''''' := kg5'''''''.only hon29 (fun hm => by have := lo18 _ hm; have := hi18 _ hm; omega)
  clear kg5'''''''
  have k13'''''' := k13'''''.only hon29 (fun hm => by have := lo18 _ hm; have := hi18 _ hm; omega)
  clear k13'''''
  have kg15''''' := kg15''''.only hon29 ng15
  clear kg15''''
  have ho9'''''''' := ho9'''''''.only hon29 (fun b hb hm => by have := lo18 b hm; have := hi18 b hm; have := lo9 b hb; have := hi9 b hb; omega)
  clear ho9'''''''
  have hq25'' := hq25'.only hon29 (fun b hb hm => by have := lo18 b hm; have := hi18 b hm; have := lo11 b hb; have := hi11 b hb; omega)
  clear hq25'
  obtain ⟨hc1x0, gc1x0⟩ := k1'''''''''''.at_ 0 (x := .slice Aa0 x0.g.length da0) rfl
  obtain ⟨hc1x1, gc1x1⟩ := k1'''''''''''.at_ 1 (x := .slice Ba0 x0.l.length ea0) rfl
  have l1 := k1'''''''''''.lt
  obtain ⟨hc2x0, gc2x0⟩ := k2''''''''''.at_ 0 (x := .int .i64 r1.a) rfl
  obtain ⟨hc2x1, gc2x1⟩ := k2''''''''''.at_ 1 (x := .int .i64 r1.b) rfl
  have l2 := k2''''''''''.lt
  obtain ⟨hc5x0, gc5x0⟩ := kg5''''''''.at_ 0 (x := .slice A9 (freeH x0 r1).g.length d9) rfl
  obtain ⟨hc5x1, gc5x1⟩ := kg5''''''''.at_ 1 (x := .slice B9 (freeH x0 r1).l.length e9) rfl
  have l5 := kg5''''''''.lt
  obtain ⟨hc13x0, gc13x0⟩ := k13''''''.at_ 0 (x := .slice A11 x0.g.length d11) rfl
  obtain ⟨hc13x1, gc13x1⟩ := k13''''''.at_ 1 (x := .slice B11 x0.l.length e11) rfl
  have l13 := k13''''''.lt
  obtain ⟨hc15x0, gc15x0⟩ := kg15'''''.at_ 0 (x := .slice A18 (freeH x0 r1).g.length d18) rfl
  obtain ⟨hc15x1, gc15x1⟩ := kg15'''''.at_ 1 (x := .slice B18 (freeH x0 r1).l.length e18) rfl
  have l15 := kg15'''''.lt
  go_wp2_with fail
  refine (heldHeap _ _ (freeH x0 r1) (1) _ hq29.rd (by omega) (by omega) (by omega)).mono ?_
  rintro e w31 ⟨rfl, hb31⟩
  clear hc1x0 gc1x0 hc1x1 gc1x1 l1 hc2x0 gc2x0 hc2x1 gc2x1 l2 hc5x0 gc5x0 hc5x1 gc5x1 l5 hc13x0 gc13x0 hc13x1 gc13x1 l13 hc15x0 gc15x0 hc15x1 gc15x1 l15
  have sz32 := hb31.size
  try simp only [World.size_alloc] at sz32
  have hB''''''''''''' := hB''''''''''''.trans (hb31.mono hB''''''''''''.size)
  clear hB''''''''''''
  have k1'''''''''''' := k1'''''''''''.below hb31 k1'''''''''''.lt
  clear k1'''''''''''
  have k2''''''''''' := k2''''''''''.below hb31 k2''''''''''.lt
  clear k2''''''''''
  have kg5''''''''' := kg5''''''''.below hb31 kg5''''''''.lt
  clear kg5''''''''
  have k13''''''' := k13''''''.below hb31 k13''''''.lt
  clear k13''''''
  have kg15'''''' := kg15'''''.below hb31 kg15'''''.lt
  clear kg15'''''
  have ho9''''''''' := ho9''''''''.below hb31
  clear ho9''''''''
  have hq25''' := hq25''.below hb31
  clear hq25''
  have hq29' := hq29.below hb31
  clear hq29
  obtain ⟨hc1x0, gc1x0⟩ := k1''''''''''''.at_ 0 (x := .slice Aa0 x0.g.length da0) rfl
  obtain ⟨hc1x1, gc1x1⟩ := k1''''''''''''.at_ 1 (x := .slice Ba0 x0.l.length ea0) rfl
  have l1 := k1''''''''''''.lt
  obtain ⟨hc2x0, gc2x0⟩ := k2'''''''''''.at_ 0 (x := .int .i64 r1.a) rfl
  obtain ⟨hc2x1, gc2x1⟩ := k2'''''''''''.at_ 1 (x := .int .i64 r1.b) rfl
  have l2 := k2'''''''''''.lt
  obtain ⟨hc5x0, gc5x0⟩ := kg5'''''''''.at_ 0 (x := .slice A9 (freeH x0 r1).g.length d9) rfl
  obtain ⟨hc5x1, gc5x1⟩ := kg5'''''''''.at_ 1 (x := .slice B9 (freeH x0 r1).l.length e9) rfl
  have l5 := kg5'''''''''.lt
  obtain ⟨hc13x0, gc13x0⟩ := k13'''''''.at_ 0 (x := .slice A11 x0.g.length d11) rfl
  obtain ⟨hc13x1, gc13x1⟩ := k13'''''''.at_ 1 (x := .slice B11 x0.l.length e11) rfl
  have l13 := k13'''''''.lt
  obtain ⟨hc15x0, gc15x0⟩ := kg15''''''.at_ 0 (x := .slice A18 (freeH x0 r1).g.length d18) rfl
  obtain ⟨hc15x1, gc15x1⟩ := kg15''''''.at_ 1 (x := .slice B18 (freeH x0 r1).l.length e18) rfl
  have l15 := kg15''''''.lt
  go_wp2_with fail
  clear hc1x0 gc1x0 hc1x1 gc1x1 l1 hc2x0 gc2x0 hc2x1 gc2x1 l2 hc5x0 gc5x0 hc5x1 gc5x1 l5 hc13x0 gc13x0 hc13x1 gc13x1 l13 hc15x0 gc15x0 hc15x1 gc15x1 l15
  obtain ⟨hc1x0, gc1x0⟩ := k1''''''''''''.at_ 0 (x := .slice Aa0 x0.g.length da0) rfl
  obtain ⟨hc1x1, gc1x1⟩ := k1''''''''''''.at_ 1 (x := .slice Ba0 x0.l.length ea0) rfl
  have l1 := k1''''''''''''.lt
  obtain ⟨hc2x0, gc2x0⟩ := k2'''''''''''.at_ 0 (x := .int .i64 r1.a) rfl
  obtain ⟨hc2x1, gc2x1⟩ := k2'''''''''''.at_ 1 (x := .int .i64 r1.b) rfl
  have l2 := k2'''''''''''.lt
  obtain ⟨hc5x0, gc5x0⟩ := kg5'''''''''.at_ 0 (x := .slice A9 (freeH x0 r1).g.length d9) rfl
  obtain ⟨hc5x1, gc5x1⟩ := kg5'''''''''.at_ 1 (x := .slice B9 (freeH x0 r1).l.length e9) rfl
  have l5 := kg5'''''''''.lt
  obtain ⟨hc13x0, gc13x0⟩ := k13'''''''.at_ 0 (x := .slice A11 x0.g.length d11) rfl
  obtain ⟨hc13x1, gc13x1⟩ := k13'''''''.at_ 1 (x := .slice B11 x0.l.length e11) rfl
  have l13 := k13'''''''.lt
  obtain ⟨hc15x0, gc15x0⟩ := kg15''''''.at_ 0 (x := .slice A18 (freeH x0 r1).g.length d18) rfl
  obtain ⟨hc15x1, gc15x1⟩ := kg15''''''.at_ 1 (x := .slice B18 (freeH x0 r1).l.length e18) rfl
  have l15 := kg15''''''.lt
  have HS33 : Hid (∀ W : World, Below w31.heap.size w31 W → Below w31.heap.size w31 W ∧ W.cell? ⟨w.heap.size, 0, none⟩ = some (.slice Aa0 x0.g.length da0) ∧ W.cell? ⟨w.heap.size, 1, none⟩ = some (.slice Ba0 x0.l.length ea0) ∧ W.cell? ⟨w.heap.size + 1, 0, none⟩ = some (.int .i64 r1.a) ∧ W.cell? ⟨w.heap.size + 1, 1, none⟩ = some (.int .i64 r1.b)) := Lib.hid fun W hW => ⟨hW, (hW.cell (p := ⟨w.heap.size, 0, none⟩) k1''''''''''''.lt).trans hc1x0, (hW.cell (p := ⟨w.heap.size, 1, none⟩) k1''''''''''''.lt).trans hc1x1, (hW.cell (p := ⟨w.heap.size + 1, 0, none⟩) k2'''''''''''.lt).trans hc2x0, (hW.cell (p := ⟨w.heap.size + 1, 1, none⟩) k2'''''''''''.lt).trans hc2x1⟩
  have KN33 : Hid (Bk ((w31.alloc (.cells #[.slice none 0 0, .slice none 0 0] 29)).drew) w31.heap.size #[.slice none 0 0, .slice none 0 0] 29) := Lib.hid (Bk.new w31 #[.slice none 0 0, .slice none 0 0] 29)
  have HN33 : Hid (Below w31.heap.size w31 (w31.alloc (.cells #[.slice none 0 0, .slice none 0 0] 29)).drew) := Lib.hid ((Below.refl _ w31).alloc (Nat.le_refl _) _).drew
  have HB33 := Lib.hid hB'''''''''''''
  have nb33x1 : w.heap.size ≠ w31.heap.size := by have := k1''''''''''''.lt; omega
  have nb33x2 : w.heap.size + 1 ≠ w31.heap.size := by have := k2'''''''''''.lt; omega
  go_cut [14, 15] (fun p33x0 p33x1 wz => ∃ (A37 : Option Addr) (d37 : Nat) (B37 : Option Addr) (e37 : Nat) (bs37 : List Nat) (g33 : Nat), p33x0 = .pointer (some ⟨g33, 0, none⟩) ∧ p33x1 = .int .i64 (freeC x0 r1) ∧ OwnHp wz (.slice A37 (freeH x0 r1).g.length d37) (.slice B37 (freeH x0 r1).l.length e37) (freeH x0 r1) bs37 ∧ (∀ b ∈ bs37, w31.heap.size ≤ b) ∧ Bk wz g33 #[.slice A37 (freeH x0 r1).g.length d37, .slice B37 (freeH x0 r1).l.length e37] 29 ∧ w31.heap.size ≤ g33 ∧ Below w31.heap.size w31 wz)
  case first =>
    go_region_held3 (fun W => Below w31.heap.size w31 W ∧ W.cell? ⟨w.heap.size, 0, none⟩ = some (.slice Aa0 x0.g.length da0) ∧ W.cell? ⟨w.heap.size, 1, none⟩ = some (.slice Ba0 x0.l.length ea0) ∧ W.cell? ⟨w.heap.size + 1, 0, none⟩ = some (.int .i64 r1.a) ∧ W.cell? ⟨w.heap.size + 1, 1, none⟩ = some (.int .i64 r1.b)) (first | (exact HS33.out _ (Below.refl _ _).drew) | (exact HS33.out _ HN33.out) | (exact HS33.out _ (hS33x0.alloc hS33x0.size _)) | (exact HS33.out _ (hS33x1.alloc hS33x1.size _)) | (exact HS33.out _ (hS33x2.alloc hS33x2.size _)) | (exact HS33.out _ ((hS33x2.setCell (Nat.le_refl _) _).setCell (Nat.le_refl _) _)) | (exact HS33.out _ ((hS33x2.setCell hS33x0.size _).setCell hS33x0.size _)) | (exact HS33.out _ ((hS33x2.setCell hS33x1.size _).setCell hS33x1.size _)) | (exact HS33.out _ ((hS33x2.setCell hS33x2.size _).setCell hS33x2.size _)) | (exact HS33.out _ (by assumption)))
      (first
        | (go_at_call_of 8 (Value.agg #[Value.slice Aa0 x0.g.length da0, Value.slice Ba0 x0.l.length ea0] : Value); have hS := ‹Below w31.heap.size w31 _ ∧ _›.1; refine (toHeap _ _ x0 _ (HAaH.out.below (HB33.out.trans (hS.mono HB33.out.size))) (by omega)).mono ?_; rintro e w34 ⟨v34x0, v34x1, bs34, rfl, ho34, lo34, hb34⟩; have hS33x0 := hS.trans (hb34.mono hS.size); clear hS; (first | (have q33x0 := KN33.out.below hb34 KN33.out.lt) | skip))
        | (go_at_call_of 9 (Value.agg #[Value.int .i64 r1.a, Value.int .i64 r1.b] : Value); have hS := ‹Below w31.heap.size w31 _ ∧ _›.1; refine (toRef r1 _).mono ?_; rintro e w35 ⟨rfl, hb35⟩; have hS33x1 := hS.trans (hb35.mono hS.size); clear hS; (first | (have ho34 := ho34.below hb35) | (have ho34 := (ho34.below ((Below.refl _ w34).alloc (Nat.le_refl _) (.cells #[.slice none 0 0, .slice none 0 0] 29))).below hb35)); (first | (have q33x1 := q33x0.below hb35 q33x0.lt) | (have q33x1 := (Bk.new w34 #[.slice none 0 0, .slice none 0 0] 29).below hb35 (Bk.new w34 #[.slice none 0 0, .slice none 0 0] 29).lt) | skip))
        | (go_at_call 10; have hS := ‹Below w31.heap.size w31 _ ∧ _›.1; refine (impl_FreeObj _ _ x0 r1 _ ho34.rd (by omega) (HT.out.below (HB33.out.trans (hS.mono HB33.out.size)) (Nat.le_refl _))).mono ?_; rintro e w36 ⟨v37x0, v37x1, bs37, rfl, ho37, lo37, hb36⟩; have hS33x2 := hS.trans (hb36.mono hS.size); clear hS; obtain ⟨A37, d37, B37, e37, rfl, rfl⟩ := ho37.slices; (first | (have q33x2 := q33x1.below hb36 q33x1.lt) | (have q33x2 := (Bk.new w35 #[.slice none 0 0, .slice none 0 0] 29).below hb36 (Bk.new w35 #[.slice none 0 0, .slice none 0 0] 29).lt) | skip); try (obtain ⟨hq33, hg33⟩ := q33x2.at_ 0 (x := .slice none 0 0) rfl); try (obtain ⟨hq33b, hg33b⟩ := q33x2.at_ 1 (x := .slice none 0 0) rfl))
        | (go_at_call 10; have hS := ‹Below w31.heap.size w31 _ ∧ _›.1; refine (impl_FreeObj _ _ x0 r1 _ (ho34.below ((Below.refl _ w35).alloc (Nat.le_refl _) (.cells #[.slice none 0 0, .slice none 0 0] 29))).rd (by omega) (HT.out.below (HB33.out.trans (hS.mono HB33.out.size)) (Nat.le_refl _))).mono ?_; rintro e w36 ⟨v37x0, v37x1, bs37, rfl, ho37, lo37, hb36⟩; have hS33x2 := hS.trans (hb36.mono hS.size); clear hS; obtain ⟨A37, d37, B37, e37, rfl, rfl⟩ := ho37.slices; (first | (have q33x2 := q33x1.below hb36 q33x1.lt) | (have q33x2 := (Bk.new w35 #[.slice none 0 0, .slice none 0 0] 29).below hb36 (Bk.new w35 #[.slice none 0 0, .slice none 0 0] 29).lt) | skip); try (obtain ⟨hq33, hg33⟩ := q33x2.at_ 0 (x := .slice none 0 0) rfl); try (obtain ⟨hq33b, hg33b⟩ := q33x2.at_ 1 (x := .slice none 0 0) rfl)))
    all_goals go_wp2_with fail
    all_goals go_meet
    all_goals (try have s33w34 := hS33x0.size)
    all_goals (try have s33w35 := hS33x1.size)
    all_goals (try have t33hb34 := hb34.size)
    all_goals (try simp at t33hb34)
    all_goals (try have t33hb35 := hb35.size)
    all_goals (try simp at t33hb35)
    all_goals (try have t33hb36 := hb36.size)
    all_goals (try simp at t33hb36)
    all_goals (first | exact ⟨A37, d37, B37, e37, bs37, _, rfl, rfl, ho37.below ((Below.refl _ _).alloc (Nat.le_refl _) _), fun b hb => Nat.le_trans (by first | omega | (simp; omega) | simp) (lo37 b hb), Bk.new _ _ _, hS33x2.size, hS33x2.alloc hS33x2.size _⟩ | exact ⟨A37, d37, B37, e37, bs37, _, rfl, rfl, (ho37.far (fun k hk => by have := lo37 k hk; (try simp only [World.size_alloc] at this); omega)).far (fun k hk => by have := lo37 k hk; (try simp only [World.size_alloc] at this); omega), fun b hb => Nat.le_trans (by first | omega | (simp; omega) | simp) (lo37 b hb), by simpa using (q33x2.set_ 0 (.slice A37 (freeH x0 r1).g.length d37)).set_ 1 (.slice B37 (freeH x0 r1).l.length e37), by first | exact Nat.le_refl _ | omega, (hS33x2.setCell (by first | exact Nat.le_refl _ | (show w31.heap.size ≤ _; omega)) _).setCell (by first | exact Nat.le_refl _ | (show w31.heap.size ≤ _; omega)) _⟩)
  obtain ⟨A37, d37, B37, e37, bs37, g33, rfl, rfl, ho37, lo37, kg33, hgl33, hBc33⟩ := hcut
  rename World => wc33
  have hgt33 := kg33.lt
  clear HS33 KN33 HN33 HB33 nb33x1 nb33x2
  clear hc1x0 gc1x0 hc1x1 gc1x1 l1 hc2x0 gc2x0 hc2x1 gc2x1 l2 hc5x0 gc5x0 hc5x1 gc5x1 l5 hc13x0 gc13x0 hc13x1 gc13x1 l13 hc15x0 gc15x0 hc15x1 gc15x1 l15
  have sz38 := hBc33.size
  try simp only [World.size_alloc] at sz38
  have hB'''''''''''''' := hB'''''''''''''.trans (hBc33.mono hB'''''''''''''.size)
  clear hB'''''''''''''
  have k1''''''''''''' := k1''''''''''''.below hBc33 k1''''''''''''.lt
  clear k1''''''''''''
  have k2'''''''''''' := k2'''''''''''.below hBc33 k2'''''''''''.lt
  clear k2'''''''''''
  have kg5'''''''''' := kg5'''''''''.below hBc33 kg5'''''''''.lt
  clear kg5'''''''''
  have k13'''''''' := k13'''''''.below hBc33 k13'''''''.lt
  clear k13'''''''
  have kg15''''''' := kg15''''''.below hBc33 kg15''''''.lt
  clear kg15''''''
  have ho9'''''''''' := ho9'''''''''.below hBc33
  clear ho9'''''''''
  have hq25'''' := hq25'''.below hBc33
  clear hq25'''
  have hq29'' := hq29'.below hBc33
  clear hq29'
  have hi37 := ho37.lt
  obtain ⟨hc1x0, gc1x0⟩ := k1'''''''''''''.at_ 0 (x := .slice Aa0 x0.g.length da0) rfl
  obtain ⟨hc1x1, gc1x1⟩ := k1'''''''''''''.at_ 1 (x := .slice Ba0 x0.l.length ea0) rfl
  have l1 := k1'''''''''''''.lt
  obtain ⟨hc2x0, gc2x0⟩ := k2''''''''''''.at_ 0 (x := .int .i64 r1.a) rfl
  obtain ⟨hc2x1, gc2x1⟩ := k2''''''''''''.at_ 1 (x := .int .i64 r1.b) rfl
  have l2 := k2''''''''''''.lt
  obtain ⟨hc5x0, gc5x0⟩ := kg5''''''''''.at_ 0 (x := .slice A9 (freeH x0 r1).g.length d9) rfl
  obtain ⟨hc5x1, gc5x1⟩ := kg5''''''''''.at_ 1 (x := .slice B9 (freeH x0 r1).l.length e9) rfl
  have l5 := kg5''''''''''.lt
  obtain ⟨hc13x0, gc13x0⟩ := k13''''''''.at_ 0 (x := .slice A11 x0.g.length d11) rfl
  obtain ⟨hc13x1, gc13x1⟩ := k13''''''''.at_ 1 (x := .slice B11 x0.l.length e11) rfl
  have l13 := k13''''''''.lt
  obtain ⟨hc15x0, gc15x0⟩ := kg15'''''''.at_ 0 (x := .slice A18 (freeH x0 r1).g.length d18) rfl
  obtain ⟨hc15x1, gc15x1⟩ := kg15'''''''.at_ 1 (x := .slice B18 (freeH x0 r1).l.length e18) rfl
  have l15 := kg15'''''''.lt
  obtain ⟨hc33x0, gc33x0⟩ := kg33.at_ 0 (x := .slice A37 (freeH x0 r1).g.length d37) rfl
  obtain ⟨hc33x1, gc33x1⟩ := kg33.at_ 1 (x := .slice B37 (freeH x0 r1).l.length e37) rfl
  have l33 := kg33.lt
  go_wp2_with fail
  refine (eqHeap _ _ _ _ ((freeH x0 r1)) ((freeH x0 r1)) _ ho37.rd ho9''''''''''.rd).mono ?_
  rintro e w39 ⟨rfl, hb39⟩
  rw [decide_eq_true rfl]
  clear hc1x0 gc1x0 hc1x1 gc1x1 l1 hc2x0 gc2x0 hc2x1 gc2x1 l2 hc5x0 gc5x0 hc5x1 gc5x1 l5 hc13x0 gc13x0 hc13x1 gc13x1 l13 hc15x0 gc15x0 hc15x1 gc15x1 l15 hc33x0 gc33x0 hc33x1 gc33x1 l33
  have sz40 := hb39.size
  try simp only [World.size_alloc] at sz40
  have hB''''''''''''''' := hB''''''''''''''.trans (hb39.mono hB''''''''''''''.size)
  clear hB''''''''''''''
  have k1'''''''''''''' := k1'''''''''''''.below hb39 k1'''''''''''''.lt
  clear k1'''''''''''''
  have k2''''''''''''' := k2''''''''''''.below hb39 k2''''''''''''.lt
  clear k2''''''''''''
  have kg5''''''''''' := kg5''''''''''.below hb39 kg5''''''''''.lt
  clear kg5''''''''''
  have k13''''''''' := k13''''''''.below hb39 k13''''''''.lt
  clear k13''''''''
  have kg15'''''''' := kg15'''''''.below hb39 kg15'''''''.lt
  clear kg15'''''''
  have kg33' := kg33.below hb39 kg33.lt
  clear kg33
  have ho9''''''''''' := ho9''''''''''.below hb39
  clear ho9''''''''''
  have hq25''''' := hq25''''.below hb39
  clear hq25''''
  have hq29''' := hq29''.below hb39
  clear hq29''
  have ho37' := ho37.below hb39
  clear ho37
  obtain ⟨hc1x0, gc1x0⟩ := k1''''''''''''''.at_ 0 (x := .slice Aa0 x0.g.length da0) rfl
  obtain ⟨hc1x1, gc1x1⟩ := k1''''''''''''''.at_ 1 (x := .slice Ba0 x0.l.length ea0) rfl
  have l1 := k1''''''''''''''.lt
  obtain ⟨hc2x0, gc2x0⟩ := k2'''''''''''''.at_ 0 (x := .int .i64 r1.a) rfl
  obtain ⟨hc2x1, gc2x1⟩ := k2'''''''''''''.at_ 1 (x := .int .i64 r1.b) rfl
  have l2 := k2'''''''''''''.lt
  obtain ⟨hc5x0, gc5x0⟩ := kg5'''''''''''.at_ 0 (x := .slice A9 (freeH x0 r1).g.length d9) rfl
  obtain ⟨hc5x1, gc5x1⟩ := kg5'''''''''''.at_ 1 (x := .slice B9 (freeH x0 r1).l.length e9) rfl
  have l5 := kg5'''''''''''.lt
  obtain ⟨hc13x0, gc13x0⟩ := k13'''''''''.at_ 0 (x := .slice A11 x0.g.length d11) rfl
  obtain ⟨hc13x1, gc13x1⟩ := k13'''''''''.at_ 1 (x := .slice B11 x0.l.length e11) rfl
  have l13 := k13'''''''''.lt
  obtain ⟨hc15x0, gc15x0⟩ := kg15''''''''.at_ 0 (x := .slice A18 (freeH x0 r1).g.length d18) rfl
  obtain ⟨hc15x1, gc15x1⟩ := kg15''''''''.at_ 1 (x := .slice B18 (freeH x0 r1).l.length e18) rfl
  have l15 := kg15''''''''.lt
  obtain ⟨hc33x0, gc33x0⟩ := kg33'.at_ 0 (x := .slice A37 (freeH x0 r1).g.length d37) rfl
  obtain ⟨hc33x1, gc33x1⟩ := kg33'.at_ 1 (x := .slice B37 (freeH x0 r1).l.length e37) rfl
  have l33 := kg33'.lt
  go_wp2_with fail
  refine (heldHeap _ _ (freeH x0 r1) (1) _ hq29'''.rd (by omega) (by omega) (by omega)).mono ?_
  rintro e w41 ⟨rfl, hb41⟩
  clear hc1x0 gc1x0 hc1x1 gc1x1 l1 hc2x0 gc2x0 hc2x1 gc2x1 l2 hc5x0 gc5x0 hc5x1 gc5x1 l5 hc13x0 gc13x0 hc13x1 gc13x1 l13 hc15x0 gc15x0 hc15x1 gc15x1 l15 hc33x0 gc33x0 hc33x1 gc33x1 l33
  have sz42 := hb41.size
  try simp only [World.size_alloc] at sz42
  have hB'''''''''''''''' := hB'''''''''''''''.trans (hb41.mono hB'''''''''''''''.size)
  clear hB'''''''''''''''
  have k1''''''''''''''' := k1''''''''''''''.below hb41 k1''''''''''''''.lt
  clear k1''''''''''''''
  have k2'''''''''''''' := k2'''''''''''''.below hb41 k2'''''''''''''.lt
  clear k2'''''''''''''
  have kg5'''''''''''' := kg5'''''''''''.below hb41 kg5'''''''''''.lt
  clear kg5'''''''''''
  have k13'''''''''' := k13'''''''''.below hb41 k13'''''''''.lt
  clear k13'''''''''
  have kg15''''''''' := kg15''''''''.below hb41 kg15''''''''.lt
  clear kg15''''''''
  have kg33'' := kg33'.below hb41 kg33'.lt
  clear kg33'
  have ho9'''''''''''' := ho9'''''''''''.below hb41
  clear ho9'''''''''''
  have hq25'''''' := hq25'''''.below hb41
  clear hq25'''''
  have hq29'''' := hq29'''.below hb41
  clear hq29'''
  have ho37'' := ho37'.below hb41
  clear ho37'
  obtain ⟨hc1x0, gc1x0⟩ := k1'''''''''''''''.at_ 0 (x := .slice Aa0 x0.g.length da0) rfl
  obtain ⟨hc1x1, gc1x1⟩ := k1'''''''''''''''.at_ 1 (x := .slice Ba0 x0.l.length ea0) rfl
  have l1 := k1'''''''''''''''.lt
  obtain ⟨hc2x0, gc2x0⟩ := k2''''''''''''''.at_ 0 (x := .int .i64 r1.a) rfl
  obtain ⟨hc2x1, gc2x1⟩ := k2''''''''''''''.at_ 1 (x := .int .i64 r1.b) rfl
  have l2 := k2''''''''''''''.lt
  obtain ⟨hc5x0, gc5x0⟩ := kg5''''''''''''.at_ 0 (x := .slice A9 (freeH x0 r1).g.length d9) rfl
  obtain ⟨hc5x1, gc5x1⟩ := kg5''''''''''''.at_ 1 (x := .slice B9 (freeH x0 r1).l.length e9) rfl
  have l5 := kg5''''''''''''.lt
  obtain ⟨hc13x0, gc13x0⟩ := k13''''''''''.at_ 0 (x := .slice A11 x0.g.length d11) rfl
  obtain ⟨hc13x1, gc13x1⟩ := k13''''''''''.at_ 1 (x := .slice B11 x0.l.length e11) rfl
  have l13 := k13''''''''''.lt
  obtain ⟨hc15x0, gc15x0⟩ := kg15'''''''''.at_ 0 (x := .slice A18 (freeH x0 r1).g.length d18) rfl
  obtain ⟨hc15x1, gc15x1⟩ := kg15'''''''''.at_ 1 (x := .slice B18 (freeH x0 r1).l.length e18) rfl
  have l15 := kg15'''''''''.lt
  obtain ⟨hc33x0, gc33x0⟩ := kg33''.at_ 0 (x := .slice A37 (freeH x0 r1).g.length d37) rfl
  obtain ⟨hc33x1, gc33x1⟩ := kg33''.at_ 1 (x := .slice B37 (freeH x0 r1).l.length e37) rfl
  have l33 := kg33''.lt
  go_wp2_with fail
  go_ret
  exact ⟨rfl, hB''''''''''''''''⟩
theorem tab_FreeObj {W : World} (h : laidMetH Tryd.prog Rows.fnExactFreeObjRow.laid W) (hS : W.ShapedOpen Tryd.prog) : ErrTy W := errTy_of h
set_option maxRecDepth 100000 in
theorem contract_FreeObj (H : Type) (enc : TypeId × Value → H) (W : World) (base : Nat) (args : Array Value) (ds gs : List (DataW H)) (before : List MemPlace)
    (hval0 : ∀ (j : Nat) t v, Tryd.f3.params[j]? = some t → args[j]? = some v → Value.okWide Tryd.prog W .any base t v)
    (hW : DataW.Whole enc Tryd.prog Tryd.f3.params.toList Rows.fnExactFreeObjSpec.vars false W args.toList ds gs before) (hL : laidMetH Tryd.prog Rows.fnExactFreeObjRow.laid W) (hS : W.ShapedOpen Tryd.prog) :
    Calls Tryd.prog 3 args W fun e W' => ∃ v, e = .returned v ∧ Rows.fnExactFreeObjSpec.post enc Tryd.prog Tryd.f3 false true false false W args v W' := by
  have hval : ∀ (j : Nat) t v, Tryd.f3.params[j]? = some t → args[j]? = some v → Value.okWide Tryd.prog W .any base t v := hval0
  have hW' := hW
  obtain ⟨p, q, hA0, hV, rfl, hfz, hnd⟩ := hW
  have hA : DataW.TrodAll enc Tryd.prog W 0 (fun _ => true) true Tryd.f3.params.toList args.toList ds p := hA0
  rw [Tryd.params3] at hA hval
  obtain ⟨v0, vs0, d0, ds0, p0, q0, hargs, rfl, rfl, h0, r0⟩ := trodAll_cons hA
  obtain ⟨v1, vs1, d1, ds1, p1, q1, rfl, rfl, rfl, h1, r1⟩ := trodAll_cons r0
  obtain ⟨rfl, rfl, rfl⟩ := trodAll_nil r1
  obtain rfl : args = #[v0, v1] := by cases args; simp_all
  obtain ⟨rfl, rfl⟩ := trodVars_none hV
  obtain ⟨c0, u0, x0, rfl, hR0, hI0⟩ := read_heap Tryd.underlying25 ⟨rfl, rfl⟩ (by decide +kernel) ⟨by kernel_rfl, by kernel_rfl⟩ Tryd.underlying22 Tryd.underlying3 (by kernel_rfl) Tryd.underlying23 Tryd.underlying4 (by kernel_rfl) (hval 0 _ v0 rfl rfl) h0
  obtain ⟨x1, rfl, xw1⟩ := read_p2 Tryd.underlying27 (by kernel_rfl) ⟨rfl, rfl⟩ (by decide +kernel) ⟨Tryd.underlying3, Tryd.underlying3⟩ (hval 1 _ v1 rfl rfl) h1
  have hL' := tab_FreeObj hL hS
  refine (walk_FreeObj _ _ x0 x1 W hR0 hL').mono fun e W' ⟨he, hb⟩ => ?_
  subst he
  exact ⟨_, rfl, post_law (by kernel_rfl) rfl rfl (by kernel_rfl) Tryd.underlying4 (of_decide_eq_true (by kernel_rfl)) hW' hb⟩
noncomputable def world_FreeObj (os : Os) : World := laidWorldH os Rows.fnExactFreeObjRow.laid
theorem met_FreeObj (os : Os) : laidMetH Tryd.prog Rows.fnExactFreeObjRow.laid ((world_FreeObj os).forCall (fun _ _ => 0) ⟨#[], #[.agg #[.slice none 0 0, .slice none 0 0], .agg #[.int .i64 0, .int .i64 0]], []⟩).memory := laidMetH_of_parts (laidMet_nil _ _) (by kernel_rfl)
theorem reads_FreeObj (os : Os) {H : Type} (enc : TypeId × Value → H) : ∃ places, DataW.whole enc Tryd.prog ((world_FreeObj os).forCall (fun _ _ => 0) ⟨#[], #[.agg #[.slice none 0 0, .slice none 0 0], .agg #[.int .i64 0, .int .i64 0]], []⟩).memory Tryd.f3.params.toList Rows.fnExactFreeObjSpec.vars false (#[.agg #[.slice none 0 0, .slice none 0 0], .agg #[.int .i64 0, .int .i64 0]] : Array Value).toList 8 = some ([.agg [.nil, .nil], .agg [.lit (.int .i64 0), .lit (.int .i64 0)]], [], places) :=
  ⟨[], by kernel_rfl⟩
set_option maxRecDepth 100000 in
theorem lift_FreeObj (os : Os) (started : os.Started) (H : Type) (enc : TypeId × Value → H) (F : Stop.Interp) :
    ReturnsInHanded {} Tryd.checked os 3 .any ((OpenSpec.ofChange Rows.fnExactFreeObjSpec).preRow enc Tryd.prog Tryd.f3 Rows.fnExactFreeObjRow.domain false Rows.fnExactFreeObjRow.laid) (((OpenSpec.ofChange Rows.fnExactFreeObjSpec).at F).post enc Tryd.prog Tryd.f3 false true false false) := by
  obtain ⟨places, hx⟩ := reads_FreeObj os enc
  refine returnsInHanded_of_row (C := Tryd.checked) (s := OpenSpec.ofChange Rows.fnExactFreeObjSpec) (by kernel_rfl) started (by kernel_rfl) Tryd.func3
    (witness_row_atRef (enc := enc) (C := Tryd.checked) false (world_FreeObj os) #[.agg #[.slice none 0 0, .slice none 0 0], .agg #[.int .i64 0, .int .i64 0]] rfl (by kernel_rfl) (by kernel_rfl) (by kernel_rfl)
      (OpenSpec.preRow_of_cond 8 hx (by kernel_rfl) (fun k hk => by cases hk) (by kernel_rfl) (met_FreeObj os))) ?_
  intro W base args ds gs before hval hW _ _ _ hL hS _
  exact contract_FreeObj H enc W base args ds gs before hval hW hL hS
theorem FnExactFreeObj_row : Rows.FnExactFreeObjSaid :=
  OpenClaim.holds_of_cond 3 Tryd.f3 rfl rfl rfl rfl rfl rfl rfl ⟨rfl, rfl, rfl, rfl, rfl⟩ rfl rfl rfl rfl rfl (by kernel_rfl) Tryd.func3 (by kernel_rfl)
    (of_decide_eq_true (by kernel_rfl)) (by unfold Func.isWrapper; first | (rw [if_pos (by decide +kernel)]; kernel_rfl) | (rw [if_neg (by decide +kernel)]; exact ⟨rfl, rfl⟩))
    (fun os started H enc _ F => by rw [OpenClaim.pre_eq_preRow]; exact lift_FreeObj os started H enc F)
theorem plain_FreeObj (f : FuncId) (fn : Func) (hf : Tryd.pinned.checked.prog.funcNamed Rows.fnExactFreeObjRow.func = some f) (hfn : Tryd.pinned.checked.prog.funcs[f]? = some fn) :
    true = Tryd.pinned.checked.prog.looks [] ∧ ∀ (j : Nat) t, fn.params[j]? = some t → Tryd.pinned.checked.prog.wantsStandIn t = false := by
  obtain rfl : f = 3 := Option.some.inj ((show Tryd.prog.funcNamed Rows.fnExactFreeObjRow.func = some 3 by kernel_rfl).symm.trans hf) |>.symm
  obtain rfl : fn = Tryd.f3 := (Option.some.inj (Tryd.func3.symm.trans hfn)).symm
  refine ⟨by kernel_rfl, fun j t ht => ?_⟩
  rw [Tryd.params3] at ht
  have hm := Array.mem_of_getElem? ht
  simp at hm
  rcases hm with hm | hm
  · subst hm
    exact (show Tryd.prog.wantsStandIn 25 = false by kernel_rfl)
  · subst hm
    exact (show Tryd.prog.wantsStandIn 27 = false by kernel_rfl)
theorem FnExactFreeObj_holds : Rows.FnExactFreeObjCardSaid :=
  Claim7.holds_tied_plain_at .later [] _ _ _ _ FnExactFreeObj_row (fun _ h => by cases h) (by kernel_rfl) (fun _ h => by cases h) fnExactFreeObj_row_tie rfl ⟨rfl, rfl⟩ (by kernel_rfl) rfl plain_FreeObj (by kernel_rfl)
#print axioms FnExactFreeObj_holds
end Go.Proofs.YtpenneklpolhgaaDoor
