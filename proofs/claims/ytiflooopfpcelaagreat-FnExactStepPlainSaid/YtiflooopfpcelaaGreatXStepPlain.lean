/- FnExactStepPlain answers true at every input: StepPlain answers as its model does, leaves its arguments alone and owns its answer. Conditions: none. -/
import Derived.Test.YtiflooopfpcelaaGreatK1
import Derived.Test.YtiflooopfpcelaaGreatM6
import Derived.Test.YtiflooopfpcelaaGreatC23
import Derived.Test.YtiflooopfpcelaaGreatC25
import Derived.Deep.RegionHeld3
namespace Go.Proofs.YtiflooopfpcelaaGreat
set_option maxRecDepth 20000
set_option linter.unusedSimpArgs false
set_option linter.unusedVariables false
open Go.ChangeShapes Go.WideShapes Go.ChangeAt Go.RowKit
set_option linter.unusedVariables false
set_option maxHeartbeats 4000000 in
theorem walk_StepPlain (v0 : Value) (x0 : Pr) (v1 u1 : Value) (M1 : Ma) (a2 : Int) (w : World) (hA0 : RdASS w v0 x0.x) (hA1 : RdAMa w v1 u1 M1) (hw2 : (Lit.int .i64 a2).wf = true) :
    Calls Tryz.prog 4 #[.agg #[.int .i64 x0.c, v0], .agg #[v1, u1], .int .i64 a2] w fun e w' => e = .returned (.bool true) ∧ Below w.heap.size w w' := by
  obtain ⟨-, ⟨Aa0, da0, rfl, -, -, -, -⟩, -⟩ := id hA0
  have HAaP := Lib.hid hA0
  clear hA0
  obtain ⟨Aa1, da1, Ba1, ea1, rfl, rfl⟩ := hA1.slices
  have HAaM := Lib.hid hA1
  clear hA1
  have hqs := cntSS_all x0.x
  have hqt := spF_tot x0 M1 a2
  have hqm := cntMa_le (spF x0 M1 a2)
  have hqn := cntMa_le M1
  have hB := Below.refl w.heap.size w
  go_enter Tryz.func4, Tryz.ntmps4
  go_wp2_with fail
  have hB' := hB.alloc hB.size (.cells #[.int .i64 x0.c, .slice Aa0 x0.x.length da0] 24)
  clear hB
  have k1 := Bk.new w #[.int .i64 x0.c, .slice Aa0 x0.x.length da0] 24
  have k1' := k1.alloc (.cells #[.slice Aa1 M1.mem.length da1, .slice Ba1 M1.ths.length ea1] 30)
  clear k1
  have hB'' := hB'.alloc hB'.size (.cells #[.slice Aa1 M1.mem.length da1, .slice Ba1 M1.ths.length ea1] 30)
  clear hB'
  have k2 := Bk.new (w.alloc (.cells #[.int .i64 x0.c, .slice Aa0 x0.x.length da0] 24)) #[.slice Aa1 M1.mem.length da1, .slice Ba1 M1.ths.length ea1] 30
  simp only [World.size_alloc] at k2
  refine (szProg _ x0 (1048576) _ (HAaP.out.below hB'') (by omega) (by omega)).mono ?_
  rintro e w3 ⟨rfl, hb3⟩
  have sz4 := hb3.size
  try simp only [World.size_alloc] at sz4
  have hB''' := hB''.trans (hb3.mono hB''.size)
  clear hB''
  have k1'' := k1'.below hb3 k1'.lt
  clear k1'
  have k2' := k2.below hb3 k2.lt
  clear k2
  by_cases hn3 : (1048576 : Int) - (totSS x0.x) < 0
  · rw [show szF (totSS x0.x) (1048576) = -1 by unfold szF; rw [if_pos hn3]]
    go_wp2_with fail
    go_ret
    exact ⟨rfl, hB'''⟩
  rw [show szF (totSS x0.x) (1048576) = 1048576 - (totSS x0.x) by unfold szF; rw [if_neg hn3]]
  obtain ⟨hc1x0, gc1x0⟩ := k1''.at_ 0 (x := .int .i64 x0.c) rfl
  obtain ⟨hc1x1, gc1x1⟩ := k1''.at_ 1 (x := .slice Aa0 x0.x.length da0) rfl
  have l1 := k1''.lt
  obtain ⟨hc2x0, gc2x0⟩ := k2'.at_ 0 (x := .slice Aa1 M1.mem.length da1) rfl
  obtain ⟨hc2x1, gc2x1⟩ := k2'.at_ 1 (x := .slice Ba1 M1.ths.length ea1) rfl
  have l2 := k2'.lt
  go_wp2_with fail
  refine (szMachine _ _ M1 (1048576 - (totSS x0.x)) _ (HAaM.out.below hB''') (by omega) (by omega)).mono ?_
  rintro e w5 ⟨rfl, hb5⟩
  clear hc1x0 gc1x0 hc1x1 gc1x1 l1 hc2x0 gc2x0 hc2x1 gc2x1 l2
  have sz6 := hb5.size
  try simp only [World.size_alloc] at sz6
  have hB'''' := hB'''.trans (hb5.mono hB'''.size)
  clear hB'''
  have k1''' := k1''.below hb5 k1''.lt
  clear k1''
  have k2'' := k2'.below hb5 k2'.lt
  clear k2'
  by_cases hn5 : (1048576 - (totSS x0.x) : Int) - (totMa M1) < 0
  · rw [show szF (totMa M1) (1048576 - (totSS x0.x)) = -1 by unfold szF; rw [if_pos hn5]]
    go_wp2_with fail
    go_ret
    exact ⟨rfl, hB''''⟩
  rw [show szF (totMa M1) (1048576 - (totSS x0.x)) = 1048576 - (totSS x0.x) - (totMa M1) by unfold szF; rw [if_neg hn5]]
  obtain ⟨hc1x0, gc1x0⟩ := k1'''.at_ 0 (x := .int .i64 x0.c) rfl
  obtain ⟨hc1x1, gc1x1⟩ := k1'''.at_ 1 (x := .slice Aa0 x0.x.length da0) rfl
  have l1 := k1'''.lt
  obtain ⟨hc2x0, gc2x0⟩ := k2''.at_ 0 (x := .slice Aa1 M1.mem.length da1) rfl
  obtain ⟨hc2x1, gc2x1⟩ := k2''.at_ 1 (x := .slice Ba1 M1.ths.length ea1) rfl
  have l2 := k2''.lt
  go_wp2_with fail
  clear hc1x0 gc1x0 hc1x1 gc1x1 l1 hc2x0 gc2x0 hc2x1 gc2x1 l2
  obtain ⟨hc1x0, gc1x0⟩ := k1'''.at_ 0 (x := .int .i64 x0.c) rfl
  obtain ⟨hc1x1, gc1x1⟩ := k1'''.at_ 1 (x := .slice Aa0 x0.x.length da0) rfl
  have l1 := k1'''.lt
  obtain ⟨hc2x0, gc2x0⟩ := k2''.at_ 0 (x := .slice Aa1 M1.mem.length da1) rfl
  obtain ⟨hc2x1, gc2x1⟩ := k2''.at_ 1 (x := .slice Ba1 M1.ths.length ea1) rfl
  have l2 := k2''.lt
  have HS7 : Hid (∀ W : World, Below w5.heap.size w5 W → Below w5.heap.size w5 W ∧ W.cell? ⟨w.heap.size, 0, none⟩ = some (.int .i64 x0.c) ∧ W.cell? ⟨w.heap.size, 1, none⟩ = some (.slice Aa0 x0.x.length da0) ∧ W.cell? ⟨w.heap.size + 1, 0, none⟩ = some (.slice Aa1 M1.mem.length da1) ∧ W.cell? ⟨w.heap.size + 1, 1, none⟩ = some (.slice Ba1 M1.ths.length ea1)) := Lib.hid fun W hW => ⟨hW, (hW.cell (p := ⟨w.heap.size, 0, none⟩) k1'''.lt).trans hc1x0, (hW.cell (p := ⟨w.heap.size, 1, none⟩) k1'''.lt).trans hc1x1, (hW.cell (p := ⟨w.heap.size + 1, 0, none⟩) k2''.lt).trans hc2x0, (hW.cell (p := ⟨w.heap.size + 1, 1, none⟩) k2''.lt).trans hc2x1⟩
  have KN7 : Hid (Bk ((w5.alloc (.cells #[.slice none 0 0, .slice none 0 0] 38)).drew) w5.heap.size #[.slice none 0 0, .slice none 0 0] 38) := Lib.hid (Bk.new w5 #[.slice none 0 0, .slice none 0 0] 38)
  have HN7 : Hid (Below w5.heap.size w5 (w5.alloc (.cells #[.slice none 0 0, .slice none 0 0] 38)).drew) := Lib.hid ((Below.refl _ w5).alloc (Nat.le_refl _) _).drew
  have HB7 := Lib.hid hB''''
  have nb7x1 : w.heap.size ≠ w5.heap.size := by have := k1'''.lt; omega
  have nb7x2 : w.heap.size + 1 ≠ w5.heap.size := by have := k2''.lt; omega
  go_cut [8, 9] (fun p7x0 p7x1 wz => ∃ (A11 : Option Addr) (d11 : Nat) (B11 : Option Addr) (e11 : Nat) (bs11 : List Nat) (g7 : Nat), p7x0 = .pointer (some ⟨g7, 0, none⟩) ∧ p7x1 = .bool (spB x0 M1 a2) ∧ OwnMa wz (.slice A11 (spF x0 M1 a2).mem.length d11) (.slice B11 (spF x0 M1 a2).ths.length e11) (spF x0 M1 a2) bs11 ∧ (∀ b ∈ bs11, w5.heap.size ≤ b) ∧ Bk wz g7 #[.slice A11 (spF x0 M1 a2).mem.length d11, .slice B11 (spF x0 M1 a2).ths.length e11] 38 ∧ w5.heap.size ≤ g7 ∧ Below w5.heap.size w5 wz)
  case first =>
    go_region_held3 (fun W => Below w5.heap.size w5 W ∧ W.cell? ⟨w.heap.size, 0, none⟩ = some (.int .i64 x0.c) ∧ W.cell? ⟨w.heap.size, 1, none⟩ = some (.slice Aa0 x0.x.length da0) ∧ W.cell? ⟨w.heap.size + 1, 0, none⟩ = some (.slice Aa1 M1.mem.length da1) ∧ W.cell? ⟨w.heap.size + 1, 1, none⟩ = some (.slice Ba1 M1.ths.length ea1)) (first | (exact HS7.out _ (Below.refl _ _).drew) | (exact HS7.out _ HN7.out) | (exact HS7.out _ (hS7x0.alloc hS7x0.size _)) | (exact HS7.out _ (hS7x1.alloc hS7x1.size _)) | (exact HS7.out _ (hS7x2.alloc hS7x2.size _)) | (exact HS7.out _ ((hS7x2.setCell (Nat.le_refl _) _).setCell (Nat.le_refl _) _)) | (exact HS7.out _ ((hS7x2.setCell hS7x0.size _).setCell hS7x0.size _)) | (exact HS7.out _ ((hS7x2.setCell hS7x1.size _).setCell hS7x1.size _)) | (exact HS7.out _ ((hS7x2.setCell hS7x2.size _).setCell hS7x2.size _)) | (exact HS7.out _ (by assumption)))
      (first
        | (go_at_call_of 10 (Value.agg #[Value.int .i64 x0.c, Value.slice Aa0 x0.x.length da0] : Value); have hS := ‹Below w5.heap.size w5 _ ∧ _›.1; refine (toProg _ x0 _ (HAaP.out.below (HB7.out.trans (hS.mono HB7.out.size))) (by omega)).mono ?_; rintro e w8 ⟨v8x0, bs8, rfl, ho8, lo8, hb8⟩; have hS7x0 := hS.trans (hb8.mono hS.size); clear hS; (first | (have q7x0 := KN7.out.below hb8 KN7.out.lt) | skip))
        | (go_at_call_of 11 (Value.agg #[Value.slice Aa1 M1.mem.length da1, Value.slice Ba1 M1.ths.length ea1] : Value); have hS := ‹Below w5.heap.size w5 _ ∧ _›.1; refine (toMachine _ _ M1 _ (HAaM.out.below (HB7.out.trans (hS.mono HB7.out.size))) (by omega)).mono ?_; rintro e w9 ⟨v9x0, v9x1, bs9, rfl, ho9, lo9, hb9⟩; have hS7x1 := hS.trans (hb9.mono hS.size); clear hS; (first | (have ho8 := ho8.below hb9) | (have ho8 := (ho8.below ((Below.refl _ w8).alloc (Nat.le_refl _) (.cells #[.slice none 0 0, .slice none 0 0] 38))).below hb9)); (first | (have q7x1 := q7x0.below hb9 q7x0.lt) | (have q7x1 := (Bk.new w8 #[.slice none 0 0, .slice none 0 0] 38).below hb9 (Bk.new w8 #[.slice none 0 0, .slice none 0 0] 38).lt) | skip))
        | (go_at_call 19; have hS := ‹Below w5.heap.size w5 _ ∧ _›.1; refine (spec_StepPlain _ _ _ x0 M1 a2 _ ho8.rd ho9.rd (by omega)).mono ?_; rintro e w10 ⟨v11x0, v11x1, bs11, rfl, ho11, lo11, hb10⟩; have hS7x2 := hS.trans (hb10.mono hS.size); clear hS; obtain ⟨A11, d11, B11, e11, rfl, rfl⟩ := ho11.slices; (first | (have q7x2 := q7x1.below hb10 q7x1.lt) | (have q7x2 := (Bk.new w9 #[.slice none 0 0, .slice none 0 0] 38).below hb10 (Bk.new w9 #[.slice none 0 0, .slice none 0 0] 38).lt) | skip); try (obtain ⟨hq7, hg7⟩ := q7x2.at_ 0 (x := .slice none 0 0) rfl); try (obtain ⟨hq7b, hg7b⟩ := q7x2.at_ 1 (x := .slice none 0 0) rfl))
        | (go_at_call 19; have hS := ‹Below w5.heap.size w5 _ ∧ _›.1; refine (spec_StepPlain _ _ _ x0 M1 a2 _ (ho8.below ((Below.refl _ w9).alloc (Nat.le_refl _) (.cells #[.slice none 0 0, .slice none 0 0] 38))).rd (ho9.below ((Below.refl _ w9).alloc (Nat.le_refl _) (.cells #[.slice none 0 0, .slice none 0 0] 38))).rd (by omega)).mono ?_; rintro e w10 ⟨v11x0, v11x1, bs11, rfl, ho11, lo11, hb10⟩; have hS7x2 := hS.trans (hb10.mono hS.size); clear hS; obtain ⟨A11, d11, B11, e11, rfl, rfl⟩ := ho11.slices; (first | (have q7x2 := q7x1.below hb10 q7x1.lt) | (have q7x2 := (Bk.new w9 #[.slice none 0 0, .slice none 0 0] 38).below hb10 (Bk.new w9 #[.slice none 0 0, .slice none 0 0] 38).lt) | skip); try (obtain ⟨hq7, hg7⟩ := q7x2.at_ 0 (x := .slice none 0 0) rfl); try (obtain ⟨hq7b, hg7b⟩ := q7x2.at_ 1 (x := .slice none 0 0) rfl)))
    all_goals go_wp2_with fail
    all_goals go_meet
    all_goals (try have s7w8 := hS7x0.size)
    all_goals (try have s7w9 := hS7x1.size)
    all_goals (try have t7hb8 := hb8.size)
    all_goals (try simp at t7hb8)
    all_goals (try have t7hb9 := hb9.size)
    all_goals (try simp at t7hb9)
    all_goals (try have t7hb10 := hb10.size)
    all_goals (try simp at t7hb10)
    all_goals (first | exact ⟨A11, d11, B11, e11, bs11, _, rfl, rfl, ho11.below ((Below.refl _ _).alloc (Nat.le_refl _) _), fun b hb => Nat.le_trans (by first | omega | (simp; omega) | simp) (lo11 b hb), Bk.new _ _ _, hS7x2.size, hS7x2.alloc hS7x2.size _⟩ | exact ⟨A11, d11, B11, e11, bs11, _, rfl, rfl, (ho11.far (fun k hk => by have := lo11 k hk; (try simp only [World.size_alloc] at this); omega)).far (fun k hk => by have := lo11 k hk; (try simp only [World.size_alloc] at this); omega), fun b hb => Nat.le_trans (by first | omega | (simp; omega) | simp) (lo11 b hb), by simpa using (q7x2.set_ 0 (.slice A11 (spF x0 M1 a2).mem.length d11)).set_ 1 (.slice B11 (spF x0 M1 a2).ths.length e11), by first | exact Nat.le_refl _ | omega, (hS7x2.setCell (by first | exact Nat.le_refl _ | (show w5.heap.size ≤ _; omega)) _).setCell (by first | exact Nat.le_refl _ | (show w5.heap.size ≤ _; omega)) _⟩)
  obtain ⟨A11, d11, B11, e11, bs11, g7, rfl, rfl, ho11, lo11, kg7, hgl7, hBc7⟩ := hcut
  rename World => wc7
  have hgt7 := kg7.lt
  clear HS7 KN7 HN7 HB7 nb7x1 nb7x2
  clear hc1x0 gc1x0 hc1x1 gc1x1 l1 hc2x0 gc2x0 hc2x1 gc2x1 l2
  have sz12 := hBc7.size
  try simp only [World.size_alloc] at sz12
  have hB''''' := hB''''.trans (hBc7.mono hB''''.size)
  clear hB''''
  have k1'''' := k1'''.below hBc7 k1'''.lt
  clear k1'''
  have k2''' := k2''.below hBc7 k2''.lt
  clear k2''
  have hi11 := ho11.lt
  obtain ⟨hc1x0, gc1x0⟩ := k1''''.at_ 0 (x := .int .i64 x0.c) rfl
  obtain ⟨hc1x1, gc1x1⟩ := k1''''.at_ 1 (x := .slice Aa0 x0.x.length da0) rfl
  have l1 := k1''''.lt
  obtain ⟨hc2x0, gc2x0⟩ := k2'''.at_ 0 (x := .slice Aa1 M1.mem.length da1) rfl
  obtain ⟨hc2x1, gc2x1⟩ := k2'''.at_ 1 (x := .slice Ba1 M1.ths.length ea1) rfl
  have l2 := k2'''.lt
  obtain ⟨hc7x0, gc7x0⟩ := kg7.at_ 0 (x := .slice A11 (spF x0 M1 a2).mem.length d11) rfl
  obtain ⟨hc7x1, gc7x1⟩ := kg7.at_ 1 (x := .slice B11 (spF x0 M1 a2).ths.length e11) rfl
  have l7 := kg7.lt
  go_wp2_with fail
  refine (toProg _ x0 _ (HAaP.out.below hB''''') (by omega)).mono ?_
  rintro e w13 ⟨v13x0, bs13, rfl, ho13, lo13, hb13⟩
  clear hc1x0 gc1x0 hc1x1 gc1x1 l1 hc2x0 gc2x0 hc2x1 gc2x1 l2 hc7x0 gc7x0 hc7x1 gc7x1 l7
  have sz14 := hb13.size
  try simp only [World.size_alloc] at sz14
  have hB'''''' := hB'''''.trans (hb13.mono hB'''''.size)
  clear hB'''''
  have k1''''' := k1''''.below hb13 k1''''.lt
  clear k1''''
  have k2'''' := k2'''.below hb13 k2'''.lt
  clear k2'''
  have kg7' := kg7.below hb13 kg7.lt
  clear kg7
  have ho11' := ho11.below hb13
  clear ho11
  have hi13 := ho13.lt
  try simp only [World.size_alloc] at lo13
  obtain ⟨A13, d13, rfl, -, -⟩ := ho13.slice
  obtain ⟨hc1x0, gc1x0⟩ := k1'''''.at_ 0 (x := .int .i64 x0.c) rfl
  obtain ⟨hc1x1, gc1x1⟩ := k1'''''.at_ 1 (x := .slice Aa0 x0.x.length da0) rfl
  have l1 := k1'''''.lt
  obtain ⟨hc2x0, gc2x0⟩ := k2''''.at_ 0 (x := .slice Aa1 M1.mem.length da1) rfl
  obtain ⟨hc2x1, gc2x1⟩ := k2''''.at_ 1 (x := .slice Ba1 M1.ths.length ea1) rfl
  have l2 := k2''''.lt
  obtain ⟨hc7x0, gc7x0⟩ := kg7'.at_ 0 (x := .slice A11 (spF x0 M1 a2).mem.length d11) rfl
  obtain ⟨hc7x1, gc7x1⟩ := kg7'.at_ 1 (x := .slice B11 (spF x0 M1 a2).ths.length e11) rfl
  have l7 := kg7'.lt
  go_wp2_with fail
  clear hc1x0 gc1x0 hc1x1 gc1x1 l1 hc2x0 gc2x0 hc2x1 gc2x1 l2 hc7x0 gc7x0 hc7x1 gc7x1 l7
  have k1'''''' := k1'''''.alloc (.cells #[.int .i64 x0.c, .slice A13 x0.x.length d13] 43)
  clear k1'''''
  have k2''''' := k2''''.alloc (.cells #[.int .i64 x0.c, .slice A13 x0.x.length d13] 43)
  clear k2''''
  have kg7'' := kg7'.alloc (.cells #[.int .i64 x0.c, .slice A13 x0.x.length d13] 43)
  clear kg7'
  have ho11'' := ho11'.below ((Below.refl _ _).alloc (Nat.le_refl _) (.cells #[.int .i64 x0.c, .slice A13 x0.x.length d13] 43))
  clear ho11'
  have ho13' := ho13.below ((Below.refl _ _).alloc (Nat.le_refl _) (.cells #[.int .i64 x0.c, .slice A13 x0.x.length d13] 43))
  clear ho13
  have hB''''''' := hB''''''.alloc hB''''''.size (.cells #[.int .i64 x0.c, .slice A13 x0.x.length d13] 43)
  clear hB''''''
  have k15 := Bk.new w13 #[.int .i64 x0.c, .slice A13 x0.x.length d13] 43
  refine (toMachine _ _ M1 _ (HAaM.out.below hB''''''') (by omega)).mono ?_
  rintro e w16 ⟨v16x0, v16x1, bs16, rfl, ho16, lo16, hb16⟩
  have sz17 := hb16.size
  try simp only [World.size_alloc] at sz17
  have hB'''''''' := hB'''''''.trans (hb16.mono hB'''''''.size)
  clear hB'''''''
  have k1''''''' := k1''''''.below hb16 k1''''''.lt
  clear k1''''''
  have k2'''''' := k2'''''.below hb16 k2'''''.lt
  clear k2'''''
  have kg7''' := kg7''.below hb16 kg7''.lt
  clear kg7''
  have k15' := k15.below hb16 k15.lt
  clear k15
  have ho11''' := ho11''.below hb16
  clear ho11''
  have ho13'' := ho13'.below hb16
  clear ho13'
  have hi16 := ho16.lt
  try simp only [World.size_alloc] at lo16
  obtain ⟨A16, d16, B16, e16, rfl, rfl⟩ := ho16.slices
  obtain ⟨hc1x0, gc1x0⟩ := k1'''''''.at_ 0 (x := .int .i64 x0.c) rfl
  obtain ⟨hc1x1, gc1x1⟩ := k1'''''''.at_ 1 (x := .slice Aa0 x0.x.length da0) rfl
  have l1 := k1'''''''.lt
  obtain ⟨hc2x0, gc2x0⟩ := k2''''''.at_ 0 (x := .slice Aa1 M1.mem.length da1) rfl
  obtain ⟨hc2x1, gc2x1⟩ := k2''''''.at_ 1 (x := .slice Ba1 M1.ths.length ea1) rfl
  have l2 := k2''''''.lt
  obtain ⟨hc7x0, gc7x0⟩ := kg7'''.at_ 0 (x := .slice A11 (spF x0 M1 a2).mem.length d11) rfl
  obtain ⟨hc7x1, gc7x1⟩ := kg7'''.at_ 1 (x := .slice B11 (spF x0 M1 a2).ths.length e11) rfl
  have l7 := kg7'''.lt
  obtain ⟨hc15x0, gc15x0⟩ := k15'.at_ 0 (x := .int .i64 x0.c) rfl
  obtain ⟨hc15x1, gc15x1⟩ := k15'.at_ 1 (x := .slice A13 x0.x.length d13) rfl
  have l15 := k15'.lt
  go_wp2_with fail
  clear hc1x0 gc1x0 hc1x1 gc1x1 l1 hc2x0 gc2x0 hc2x1 gc2x1 l2 hc7x0 gc7x0 hc7x1 gc7x1 l7 hc15x0 gc15x0 hc15x1 gc15x1 l15
  have k1'''''''' := k1'''''''.alloc (.cells #[.slice A16 M1.mem.length d16, .slice B16 M1.ths.length e16] 38)
  clear k1'''''''
  have k2''''''' := k2''''''.alloc (.cells #[.slice A16 M1.mem.length d16, .slice B16 M1.ths.length e16] 38)
  clear k2''''''
  have kg7'''' := kg7'''.alloc (.cells #[.slice A16 M1.mem.length d16, .slice B16 M1.ths.length e16] 38)
  clear kg7'''
  have k15'' := k15'.alloc (.cells #[.slice A16 M1.mem.length d16, .slice B16 M1.ths.length e16] 38)
  clear k15'
  have ho11'''' := ho11'''.below ((Below.refl _ _).alloc (Nat.le_refl _) (.cells #[.slice A16 M1.mem.length d16, .slice B16 M1.ths.length e16] 38))
  clear ho11'''
  have ho13''' := ho13''.below ((Below.refl _ _).alloc (Nat.le_refl _) (.cells #[.slice A16 M1.mem.length d16, .slice B16 M1.ths.length e16] 38))
  clear ho13''
  have ho16' := ho16.below ((Below.refl _ _).alloc (Nat.le_refl _) (.cells #[.slice A16 M1.mem.length d16, .slice B16 M1.ths.length e16] 38))
  clear ho16
  have hB''''''''' := hB''''''''.alloc hB''''''''.size (.cells #[.slice A16 M1.mem.length d16, .slice B16 M1.ths.length e16] 38)
  clear hB''''''''
  have k18 := Bk.new w16 #[.slice A16 M1.mem.length d16, .slice B16 M1.ths.length e16] 38
  refine (impl_StepPlain _ _ _ x0 M1 a2 _ ho13'''.rd ho16'.rd (by omega)).mono ?_
  rintro e w19 ⟨v20x0, v20x1, bs20, rfl, ho20, lo20, hb20⟩
  have sz21 := hb20.size
  try simp only [World.size_alloc] at sz21
  have hB'''''''''' := hB'''''''''.trans (hb20.mono hB'''''''''.size)
  clear hB'''''''''
  have k1''''''''' := k1''''''''.below hb20 k1''''''''.lt
  clear k1''''''''
  have k2'''''''' := k2'''''''.below hb20 k2'''''''.lt
  clear k2'''''''
  have kg7''''' := kg7''''.below hb20 kg7''''.lt
  clear kg7''''
  have k15''' := k15''.below hb20 k15''.lt
  clear k15''
  have k18' := k18.below hb20 k18.lt
  clear k18
  have ho11''''' := ho11''''.below hb20
  clear ho11''''
  have ho13'''' := ho13'''.below hb20
  clear ho13'''
  have ho16'' := ho16'.below hb20
  clear ho16'
  have hi20 := ho20.lt
  try simp only [World.size_alloc] at lo20
  obtain ⟨A20, d20, B20, e20, rfl, rfl⟩ := ho20.slices
  obtain ⟨hc1x0, gc1x0⟩ := k1'''''''''.at_ 0 (x := .int .i64 x0.c) rfl
  obtain ⟨hc1x1, gc1x1⟩ := k1'''''''''.at_ 1 (x := .slice Aa0 x0.x.length da0) rfl
  have l1 := k1'''''''''.lt
  obtain ⟨hc2x0, gc2x0⟩ := k2''''''''.at_ 0 (x := .slice Aa1 M1.mem.length da1) rfl
  obtain ⟨hc2x1, gc2x1⟩ := k2''''''''.at_ 1 (x := .slice Ba1 M1.ths.length ea1) rfl
  have l2 := k2''''''''.lt
  obtain ⟨hc7x0, gc7x0⟩ := kg7'''''.at_ 0 (x := .slice A11 (spF x0 M1 a2).mem.length d11) rfl
  obtain ⟨hc7x1, gc7x1⟩ := kg7'''''.at_ 1 (x := .slice B11 (spF x0 M1 a2).ths.length e11) rfl
  have l7 := kg7'''''.lt
  obtain ⟨hc15x0, gc15x0⟩ := k15'''.at_ 0 (x := .int .i64 x0.c) rfl
  obtain ⟨hc15x1, gc15x1⟩ := k15'''.at_ 1 (x := .slice A13 x0.x.length d13) rfl
  have l15 := k15'''.lt
  obtain ⟨hc18x0, gc18x0⟩ := k18'.at_ 0 (x := .slice A16 M1.mem.length d16) rfl
  obtain ⟨hc18x1, gc18x1⟩ := k18'.at_ 1 (x := .slice B16 M1.ths.length e16) rfl
  have l18 := k18'.lt
  go_wp2_with fail
  clear hc1x0 gc1x0 hc1x1 gc1x1 l1 hc2x0 gc2x0 hc2x1 gc2x1 l2 hc7x0 gc7x0 hc7x1 gc7x1 l7 hc15x0 gc15x0 hc15x1 gc15x1 l15 hc18x0 gc18x0 hc18x1 gc18x1 l18
  have k1'''''''''' := k1'''''''''.alloc (.cells #[.slice A20 (spF x0 M1 a2).mem.length d20, .slice B20 (spF x0 M1 a2).ths.length e20] 38)
  clear k1'''''''''
  have k2''''''''' := k2''''''''.alloc (.cells #[.slice A20 (spF x0 M1 a2).mem.length d20, .slice B20 (spF x0 M1 a2).ths.length e20] 38)
  clear k2''''''''
  have kg7'''''' := kg7'''''.alloc (.cells #[.slice A20 (spF x0 M1 a2).mem.length d20, .slice B20 (spF x0 M1 a2).ths.length e20] 38)
  clear kg7'''''
  have k15'''' := k15'''.alloc (.cells #[.slice A20 (spF x0 M1 a2).mem.length d20, .slice B20 (spF x0 M1 a2).ths.length e20] 38)
  clear k15'''
  have k18'' := k18'.alloc (.cells #[.slice A20 (spF x0 M1 a2).mem.length d20, .slice B20 (spF x0 M1 a2).ths.length e20] 38)
  clear k18'
  have ho11'''''' := ho11'''''.below ((Below.refl _ _).alloc (Nat.le_refl _) (.cells #[.slice A20 (spF x0 M1 a2).mem.length d20, .slice B20 (spF x0 M1 a2).ths.length e20] 38))
  clear ho11'''''
  have ho13''''' := ho13''''.below ((Below.refl _ _).alloc (Nat.le_refl _) (.cells #[.slice A20 (spF x0 M1 a2).mem.length d20, .slice B20 (spF x0 M1 a2).ths.length e20] 38))
  clear ho13''''
  have ho16''' := ho16''.below ((Below.refl _ _).alloc (Nat.le_refl _) (.cells #[.slice A20 (spF x0 M1 a2).mem.length d20, .slice B20 (spF x0 M1 a2).ths.length e20] 38))
  clear ho16''
  have ho20' := ho20.below ((Below.refl _ _).alloc (Nat.le_refl _) (.cells #[.slice A20 (spF x0 M1 a2).mem.length d20, .slice B20 (spF x0 M1 a2).ths.length e20] 38))
  clear ho20
  have hB''''''''''' := hB''''''''''.alloc hB''''''''''.size (.cells #[.slice A20 (spF x0 M1 a2).mem.length d20, .slice B20 (spF x0 M1 a2).ths.length e20] 38)
  clear hB''''''''''
  have k22 := Bk.new w19 #[.slice A20 (spF x0 M1 a2).mem.length d20, .slice B20 (spF x0 M1 a2).ths.length e20] 38
  refine (eqMachine _ _ _ _ ((spF x0 M1 a2)) ((spF x0 M1 a2)) _ ho20'.rd ho11''''''.rd).mono ?_
  rintro e w23 ⟨rfl, hb23⟩
  rw [decide_eq_true rfl]
  have sz24 := hb23.size
  try simp only [World.size_alloc] at sz24
  have hB'''''''''''' := hB'''''''''''.trans (hb23.mono hB'''''''''''.size)
  clear hB'''''''''''
  have k1''''''''''' := k1''''''''''.below hb23 k1''''''''''.lt
  clear k1''''''''''
  have k2'''''''''' := k2'''''''''.below hb23 k2'''''''''.lt
  clear k2'''''''''
  have kg7''''''' := kg7''''''.below hb23 kg7''''''.lt
  clear kg7''''''
  have k15''''' := k15''''.below hb23 k15''''.lt
  clear k15''''
  have k18''' := k18''.below hb23 k18''.lt
  clear k18''
  have k22' := k22.below hb23 k22.lt
  clear k22
  have ho11''''''' := ho11''''''.below hb23
  clear ho11''''''
  have ho13'''''' := ho13'''''.below hb23
  clear ho13'''''
  have ho16'''' := ho16'''.below hb23
  clear ho16'''
  have ho20'' := ho20'.below hb23
  clear ho20'
  obtain ⟨hc1x0, gc1x0⟩ := k1'''''''''''.at_ 0 (x := .int .i64 x0.c) rfl
  obtain ⟨hc1x1, gc1x1⟩ := k1'''''''''''.at_ 1 (x := .slice Aa0 x0.x.length da0) rfl
  have l1 := k1'''''''''''.lt
  obtain ⟨hc2x0, gc2x0⟩ := k2''''''''''.at_ 0 (x := .slice Aa1 M1.mem.length da1) rfl
  obtain ⟨hc2x1, gc2x1⟩ := k2''''''''''.at_ 1 (x := .slice Ba1 M1.ths.length ea1) rfl
  have l2 := k2''''''''''.lt
  obtain ⟨hc7x0, gc7x0⟩ := kg7'''''''.at_ 0 (x := .slice A11 (spF x0 M1 a2).mem.length d11) rfl
  obtain ⟨hc7x1, gc7x1⟩ := kg7'''''''.at_ 1 (x := .slice B11 (spF x0 M1 a2).ths.length e11) rfl
  have l7 := kg7'''''''.lt
  obtain ⟨hc15x0, gc15x0⟩ := k15'''''.at_ 0 (x := .int .i64 x0.c) rfl
  obtain ⟨hc15x1, gc15x1⟩ := k15'''''.at_ 1 (x := .slice A13 x0.x.length d13) rfl
  have l15 := k15'''''.lt
  obtain ⟨hc18x0, gc18x0⟩ := k18'''.at_ 0 (x := .slice A16 M1.mem.length d16) rfl
  obtain ⟨hc18x1, gc18x1⟩ := k18'''.at_ 1 (x := .slice B16 M1.ths.length e16) rfl
  have l18 := k18'''.lt
  obtain ⟨hc22x0, gc22x0⟩ := k22'.at_ 0 (x := .slice A20 (spF x0 M1 a2).mem.length d20) rfl
  obtain ⟨hc22x1, gc22x1⟩ := k22'.at_ 1 (x := .slice B20 (spF x0 M1 a2).ths.length e20) rfl
  have l22 := k22'.lt
  go_wp2_with fail
  clear hc1x0 gc1x0 hc1x1 gc1x1 l1 hc2x0 gc2x0 hc2x1 gc2x1 l2 hc7x0 gc7x0 hc7x1 gc7x1 l7 hc15x0 gc15x0 hc15x1 gc15x1 l15 hc18x0 gc18x0 hc18x1 gc18x1 l18 hc22x0 gc22x0 hc22x1 gc22x1 l22
  obtain ⟨hc1x0, gc1x0⟩ := k1'''''''''''.at_ 0 (x := .int .i64 x0.c) rfl
  obtain ⟨hc1x1, gc1x1⟩ := k1'''''''''''.at_ 1 (x := .slice Aa0 x0.x.length da0) rfl
  have l1 := k1'''''''''''.lt
  obtain ⟨hc2x0, gc2x0⟩ := k2''''''''''.at_ 0 (x := .slice Aa1 M1.mem.length da1) rfl
  obtain ⟨hc2x1, gc2x1⟩ := k2''''''''''.at_ 1 (x := .slice Ba1 M1.ths.length ea1) rfl
  have l2 := k2''''''''''.lt
  obtain ⟨hc7x0, gc7x0⟩ := kg7'''''''.at_ 0 (x := .slice A11 (spF x0 M1 a2).mem.length d11) rfl
  obtain ⟨hc7x1, gc7x1⟩ := kg7'''''''.at_ 1 (x := .slice B11 (spF x0 M1 a2).ths.length e11) rfl
  have l7 := kg7'''''''.lt
  obtain ⟨hc15x0, gc15x0⟩ := k15'''''.at_ 0 (x := .int .i64 x0.c) rfl
  obtain ⟨hc15x1, gc15x1⟩ := k15'''''.at_ 1 (x := .slice A13 x0.x.length d13) rfl
  have l15 := k15'''''.lt
  obtain ⟨hc18x0, gc18x0⟩ := k18'''.at_ 0 (x := .slice A16 M1.mem.length d16) rfl
  obtain ⟨hc18x1, gc18x1⟩ := k18'''.at_ 1 (x := .slice B16 M1.ths.length e16) rfl
  have l18 := k18'''.lt
  obtain ⟨hc22x0, gc22x0⟩ := k22'.at_ 0 (x := .slice A20 (spF x0 M1 a2).mem.length d20) rfl
  obtain ⟨hc22x1, gc22x1⟩ := k22'.at_ 1 (x := .slice B20 (spF x0 M1 a2).ths.length e20) rfl
  have l22 := k22'.lt
  have HS26 : Hid (∀ W : World, Below w23.heap.size w23 W → Below w23.heap.size w23 W ∧ W.cell? ⟨w13.heap.size, 0, none⟩ = some (.int .i64 x0.c) ∧ W.cell? ⟨w13.heap.size, 1, none⟩ = some (.slice A13 x0.x.length d13) ∧ W.cell? ⟨w.heap.size, 0, none⟩ = some (.int .i64 x0.c) ∧ W.cell? ⟨w.heap.size, 1, none⟩ = some (.slice Aa0 x0.x.length da0)) := Lib.hid fun W hW => ⟨hW, (hW.cell (p := ⟨w13.heap.size, 0, none⟩) k15'''''.lt).trans hc15x0, (hW.cell (p := ⟨w13.heap.size, 1, none⟩) k15'''''.lt).trans hc15x1, (hW.cell (p := ⟨w.heap.size, 0, none⟩) k1'''''''''''.lt).trans hc1x0, (hW.cell (p := ⟨w.heap.size, 1, none⟩) k1'''''''''''.lt).trans hc1x1⟩
  have HhB____________ := Lib.hid hB''''''''''''
  have Hho11_______ := Lib.hid ho11'''''''
  have Hho13______ := Lib.hid ho13''''''
  have Hho16____ := Lib.hid ho16''''
  have Hho20__ := Lib.hid ho20''
  go_region_held3 (fun W => Below w23.heap.size w23 W ∧ W.cell? ⟨w13.heap.size, 0, none⟩ = some (.int .i64 x0.c) ∧ W.cell? ⟨w13.heap.size, 1, none⟩ = some (.slice A13 x0.x.length d13) ∧ W.cell? ⟨w.heap.size, 0, none⟩ = some (.int .i64 x0.c) ∧ W.cell? ⟨w.heap.size, 1, none⟩ = some (.slice Aa0 x0.x.length da0)) (first | (exact HS26.out _ (Below.refl _ _).drew) | (exact HS26.out _ (by assumption)))
    (first
      | (go_at_call 10; have hS := ‹Below w23.heap.size w23 _ ∧ _›.1; refine (toProg _ x0 _ (HAaP.out.below (HhB____________.out.trans (hS.mono HhB____________.out.size))) (by omega)).mono ?_; rintro e wa25 ⟨vv0, bsw, rfl, how, low, hbw25⟩; have HO25 := Lib.hid how; clear how low; have hS26x0 := hS.trans (hbw25.mono hS.size); clear hS)
      | (go_at_call 15; have hS := ‹Below w23.heap.size w23 _ ∧ _›.1; refine (eqProg _ _ (x0) (x0) _ (Hho13______.out.below hS).rd HO25.out.rd).mono ?_; rintro e w25 ⟨rfl, hbe25⟩; have hS26x1 := hS.trans (hbe25.mono hS.size); clear hS))
  have hS26 := ‹Below w23.heap.size w23 _ ∧ _›.1
  clear HS26 HhB____________ Hho11_______ Hho13______ Hho16____ Hho20__
  clear hc1x0 gc1x0 hc1x1 gc1x1 l1 hc2x0 gc2x0 hc2x1 gc2x1 l2 hc7x0 gc7x0 hc7x1 gc7x1 l7 hc15x0 gc15x0 hc15x1 gc15x1 l15 hc18x0 gc18x0 hc18x1 gc18x1 l18 hc22x0 gc22x0 hc22x1 gc22x1 l22
  have sz27 := hS26.size
  try simp only [World.size_alloc] at sz27
  have hB''''''''''''' := hB''''''''''''.trans (hS26.mono hB''''''''''''.size)
  clear hB''''''''''''
  have k1'''''''''''' := k1'''''''''''.below hS26 k1'''''''''''.lt
  clear k1'''''''''''
  have k2''''''''''' := k2''''''''''.below hS26 k2''''''''''.lt
  clear k2''''''''''
  have kg7'''''''' := kg7'''''''.below hS26 kg7'''''''.lt
  clear kg7'''''''
  have k15'''''' := k15'''''.below hS26 k15'''''.lt
  clear k15'''''
  have k18'''' := k18'''.below hS26 k18'''.lt
  clear k18'''
  have k22'' := k22'.below hS26 k22'.lt
  clear k22'
  have ho11'''''''' := ho11'''''''.below hS26
  clear ho11'''''''
  have ho13''''''' := ho13''''''.below hS26
  clear ho13''''''
  have ho16''''' := ho16''''.below hS26
  clear ho16''''
  have ho20''' := ho20''.below hS26
  clear ho20''
  clear hS26
  clear HO25
  obtain ⟨hc1x0, gc1x0⟩ := k1''''''''''''.at_ 0 (x := .int .i64 x0.c) rfl
  obtain ⟨hc1x1, gc1x1⟩ := k1''''''''''''.at_ 1 (x := .slice Aa0 x0.x.length da0) rfl
  have l1 := k1''''''''''''.lt
  obtain ⟨hc2x0, gc2x0⟩ := k2'''''''''''.at_ 0 (x := .slice Aa1 M1.mem.length da1) rfl
  obtain ⟨hc2x1, gc2x1⟩ := k2'''''''''''.at_ 1 (x := .slice Ba1 M1.ths.length ea1) rfl
  have l2 := k2'''''''''''.lt
  obtain ⟨hc7x0, gc7x0⟩ := kg7''''''''.at_ 0 (x := .slice A11 (spF x0 M1 a2).mem.length d11) rfl
  obtain ⟨hc7x1, gc7x1⟩ := kg7''''''''.at_ 1 (x := .slice B11 (spF x0 M1 a2).ths.length e11) rfl
  have l7 := kg7''''''''.lt
  obtain ⟨hc15x0, gc15x0⟩ := k15''''''.at_ 0 (x := .int .i64 x0.c) rfl
  obtain ⟨hc15x1, gc15x1⟩ := k15''''''.at_ 1 (x := .slice A13 x0.x.length d13) rfl
  have l15 := k15''''''.lt
  obtain ⟨hc18x0, gc18x0⟩ := k18''''.at_ 0 (x := .slice A16 M1.mem.length d16) rfl
  obtain ⟨hc18x1, gc18x1⟩ := k18''''.at_ 1 (x := .slice B16 M1.ths.length e16) rfl
  have l18 := k18''''.lt
  obtain ⟨hc22x0, gc22x0⟩ := k22''.at_ 0 (x := .slice A20 (spF x0 M1 a2).mem.length d20) rfl
  obtain ⟨hc22x1, gc22x1⟩ := k22''.at_ 1 (x := .slice B20 (spF x0 M1 a2).ths.length e20) rfl
  have l22 := k22''.lt
  go_wp2_with fail
  clear hc1x0 gc1x0 hc1x1 gc1x1 l1 hc2x0 gc2x0 hc2x1 gc2x1 l2 hc7x0 gc7x0 hc7x1 gc7x1 l7 hc15x0 gc15x0 hc15x1 gc15x1 l15 hc18x0 gc18x0 hc18x1 gc18x1 l18 hc22x0 gc22x0 hc22x1 gc22x1 l22
  obtain ⟨hc1x0, gc1x0⟩ := k1''''''''''''.at_ 0 (x := .int .i64 x0.c) rfl
  obtain ⟨hc1x1, gc1x1⟩ := k1''''''''''''.at_ 1 (x := .slice Aa0 x0.x.length da0) rfl
  have l1 := k1''''''''''''.lt
  obtain ⟨hc2x0, gc2x0⟩ := k2'''''''''''.at_ 0 (x := .slice Aa1 M1.mem.length da1) rfl
  obtain ⟨hc2x1, gc2x1⟩ := k2'''''''''''.at_ 1 (x := .slice Ba1 M1.ths.length ea1) rfl
  have l2 := k2'''''''''''.lt
  obtain ⟨hc7x0, gc7x0⟩ := kg7''''''''.at_ 0 (x := .slice A11 (spF x0 M1 a2).mem.length d11) rfl
  obtain ⟨hc7x1, gc7x1⟩ := kg7''''''''.at_ 1 (x := .slice B11 (spF x0 M1 a2).ths.length e11) rfl
  have l7 := kg7''''''''.lt
  obtain ⟨hc15x0, gc15x0⟩ := k15''''''.at_ 0 (x := .int .i64 x0.c) rfl
  obtain ⟨hc15x1, gc15x1⟩ := k15''''''.at_ 1 (x := .slice A13 x0.x.length d13) rfl
  have l15 := k15''''''.lt
  obtain ⟨hc18x0, gc18x0⟩ := k18''''.at_ 0 (x := .slice A16 M1.mem.length d16) rfl
  obtain ⟨hc18x1, gc18x1⟩ := k18''''.at_ 1 (x := .slice B16 M1.ths.length e16) rfl
  have l18 := k18''''.lt
  obtain ⟨hc22x0, gc22x0⟩ := k22''.at_ 0 (x := .slice A20 (spF x0 M1 a2).mem.length d20) rfl
  obtain ⟨hc22x1, gc22x1⟩ := k22''.at_ 1 (x := .slice B20 (spF x0 M1 a2).ths.length e20) rfl
  have l22 := k22''.lt
  have HS29 : Hid (∀ W : World, Below w25.heap.size w25 W → Below w25.heap.size w25 W ∧ W.cell? ⟨w16.heap.size, 0, none⟩ = some (.slice A16 M1.mem.length d16) ∧ W.cell? ⟨w16.heap.size, 1, none⟩ = some (.slice B16 M1.ths.length e16) ∧ W.cell? ⟨w.heap.size + 1, 0, none⟩ = some (.slice Aa1 M1.mem.length da1) ∧ W.cell? ⟨w.heap.size + 1, 1, none⟩ = some (.slice Ba1 M1.ths.length ea1)) := Lib.hid fun W hW => ⟨hW, (hW.cell (p := ⟨w16.heap.size, 0, none⟩) k18''''.lt).trans hc18x0, (hW.cell (p := ⟨w16.heap.size, 1, none⟩) k18''''.lt).trans hc18x1, (hW.cell (p := ⟨w.heap.size + 1, 0, none⟩) k2'''''''''''.lt).trans hc2x0, (hW.cell (p := ⟨w.heap.size + 1, 1, none⟩) k2'''''''''''.lt).trans hc2x1⟩
  have HhB_____________ := Lib.hid hB'''''''''''''
  have Hho11________ := Lib.hid ho11''''''''
  have Hho13_______ := Lib.hid ho13'''''''
  have Hho16_____ := Lib.hid ho16'''''
  have Hho20___ := Lib.hid ho20'''
  go_region_held3 (fun W => Below w25.heap.size w25 W ∧ W.cell? ⟨w16.heap.size, 0, none⟩ = some (.slice A16 M1.mem.length d16) ∧ W.cell? ⟨w16.heap.size, 1, none⟩ = some (.slice B16 M1.ths.length e16) ∧ W.cell? ⟨w.heap.size + 1, 0, none⟩ = some (.slice Aa1 M1.mem.length da1) ∧ W.cell? ⟨w.heap.size + 1, 1, none⟩ = some (.slice Ba1 M1.ths.length ea1)) (first | (exact HS29.out _ (Below.refl _ _).drew) | (exact HS29.out _ (by assumption)))
    (first
      | (go_at_call 11; have hS := ‹Below w25.heap.size w25 _ ∧ _›.1; refine (toMachine _ _ M1 _ (HAaM.out.below (HhB_____________.out.trans (hS.mono HhB_____________.out.size))) (by omega)).mono ?_; rintro e wa28 ⟨vv0, vv1, bsw, rfl, how, low, hbw28⟩; have HO28 := Lib.hid how; clear how low; have hS29x0 := hS.trans (hbw28.mono hS.size); clear hS)
      | (go_at_call 14; have hS := ‹Below w25.heap.size w25 _ ∧ _›.1; refine (eqMachine _ _ _ _ (M1) (M1) _ (Hho16_____.out.below hS).rd HO28.out.rd).mono ?_; rintro e w28 ⟨rfl, hbe28⟩; have hS29x1 := hS.trans (hbe28.mono hS.size); clear hS))
  have hS29 := ‹Below w25.heap.size w25 _ ∧ _›.1
  clear HS29 HhB_____________ Hho11________ Hho13_______ Hho16_____ Hho20___
  clear hc1x0 gc1x0 hc1x1 gc1x1 l1 hc2x0 gc2x0 hc2x1 gc2x1 l2 hc7x0 gc7x0 hc7x1 gc7x1 l7 hc15x0 gc15x0 hc15x1 gc15x1 l15 hc18x0 gc18x0 hc18x1 gc18x1 l18 hc22x0 gc22x0 hc22x1 gc22x1 l22
  have sz30 := hS29.size
  try simp only [World.size_alloc] at sz30
  have hB'''''''''''''' := hB'''''''''''''.trans (hS29.mono hB'''''''''''''.size)
  clear hB'''''''''''''
  have k1''''''''''''' := k1''''''''''''.below hS29 k1''''''''''''.lt
  clear k1''''''''''''
  have k2'''''''''''' := k2'''''''''''.below hS29 k2'''''''''''.lt
  clear k2'''''''''''
  have kg7''''''''' := kg7''''''''.below hS29 kg7''''''''.lt
  clear kg7''''''''
  have k15''''''' := k15''''''.below hS29 k15''''''.lt
  clear k15''''''
  have k18''''' := k18''''.below hS29 k18''''.lt
  clear k18''''
  have k22''' := k22''.below hS29 k22''.lt
  clear k22''
  have ho11''''''''' := ho11''''''''.below hS29
  clear ho11''''''''
  have ho13'''''''' := ho13'''''''.below hS29
  clear ho13'''''''
  have ho16'''''' := ho16'''''.below hS29
  clear ho16'''''
  have ho20'''' := ho20'''.below hS29
  clear ho20'''
  clear hS29
  clear HO28
  obtain ⟨hc1x0, gc1x0⟩ := k1'''''''''''''.at_ 0 (x := .int .i64 x0.c) rfl
  obtain ⟨hc1x1, gc1x1⟩ := k1'''''''''''''.at_ 1 (x := .slice Aa0 x0.x.length da0) rfl
  have l1 := k1'''''''''''''.lt
  obtain ⟨hc2x0, gc2x0⟩ := k2''''''''''''.at_ 0 (x := .slice Aa1 M1.mem.length da1) rfl
  obtain ⟨hc2x1, gc2x1⟩ := k2''''''''''''.at_ 1 (x := .slice Ba1 M1.ths.length ea1) rfl
  have l2 := k2''''''''''''.lt
  obtain ⟨hc7x0, gc7x0⟩ := kg7'''''''''.at_ 0 (x := .slice A11 (spF x0 M1 a2).mem.length d11) rfl
  obtain ⟨hc7x1, gc7x1⟩ := kg7'''''''''.at_ 1 (x := .slice B11 (spF x0 M1 a2).ths.length e11) rfl
  have l7 := kg7'''''''''.lt
  obtain ⟨hc15x0, gc15x0⟩ := k15'''''''.at_ 0 (x := .int .i64 x0.c) rfl
  obtain ⟨hc15x1, gc15x1⟩ := k15'''''''.at_ 1 (x := .slice A13 x0.x.length d13) rfl
  have l15 := k15'''''''.lt
  obtain ⟨hc18x0, gc18x0⟩ := k18'''''.at_ 0 (x := .slice A16 M1.mem.length d16) rfl
  obtain ⟨hc18x1, gc18x1⟩ := k18'''''.at_ 1 (x := .slice B16 M1.ths.length e16) rfl
  have l18 := k18'''''.lt
  obtain ⟨hc22x0, gc22x0⟩ := k22'''.at_ 0 (x := .slice A20 (spF x0 M1 a2).mem.length d20) rfl
  obtain ⟨hc22x1, gc22x1⟩ := k22'''.at_ 1 (x := .slice B20 (spF x0 M1 a2).ths.length e20) rfl
  have l22 := k22'''.lt
  go_wp2_with fail
  refine (markProg _ x0 bs13 (1) _ ho13'''''''' (by omega) (by omega) (by omega)).mono ?_
  rintro e w31 ⟨rfl, hq31, hon31⟩
  clear hc1x0 gc1x0 hc1x1 gc1x1 l1 hc2x0 gc2x0 hc2x1 gc2x1 l2 hc7x0 gc7x0 hc7x1 gc7x1 l7 hc15x0 gc15x0 hc15x1 gc15x1 l15 hc18x0 gc18x0 hc18x1 gc18x1 l18 hc22x0 gc22x0 hc22x1 gc22x1 l22
  have sz32 := hon31.size
  try simp only [World.size_alloc] at sz32
  have hB''''''''''''''' := hB''''''''''''''.trans (hon31.below hB''''''''''''''.size (fun b hb => by have := lo13 b hb; omega))
  clear hB''''''''''''''
  have k1'''''''''''''' := k1'''''''''''''.only hon31 (fun hm => by have := lo13 _ hm; have := hi13 _ hm; omega)
  clear k1'''''''''''''
  have k2''''''''''''' := k2''''''''''''.only hon31 (fun hm => by have := lo13 _ hm; have := hi13 _ hm; omega)
  clear k2''''''''''''
  have kg7'''''''''' := kg7'''''''''.only hon31 (fun hm => by have := lo13 _ hm; have := hi13 _ hm; omega)
  clear kg7'''''''''
  have k15'''''''' := k15'''''''.only hon31 (fun hm => by have := lo13 _ hm; have := hi13 _ hm; omega)
  clear k15'''''''
  have k18'''''' := k18'''''.only hon31 (fun hm => by have := lo13 _ hm; have := hi13 _ hm; omega)
  clear k18'''''
  have k22'''' := k22'''.only hon31 (fun hm => by have := lo13 _ hm; have := hi13 _ hm; omega)
  clear k22'''
  have ho11'''''''''' := ho11'''''''''.only hon31 (fun b hb hm => by have := lo13 b hm; have := hi13 b hm; have := lo11 b hb; have := hi11 b hb; omega)
  clear ho11'''''''''
  have ho16''''''' := ho16''''''.only hon31 (fun b hb hm => by have := lo13 b hm; have := hi13 b hm; have := lo16 b hb; have := hi16 b hb; omega)
  clear ho16''''''
  have ho20''''' := ho20''''.only hon31 (fun b hb hm => by have := lo13 b hm; have := hi13 b hm; have := lo20 b hb; have := hi20 b hb; omega)
  clear ho20''''
  obtain ⟨hc1x0, gc1x0⟩ := k1''''''''''''''.at_ 0 (x := .int .i64 x0.c) rfl
  obtain ⟨hc1x1, gc1x1⟩ := k1''''''''''''''.at_ 1 (x := .slice Aa0 x0.x.length da0) rfl
  have l1 := k1''''''''''''''.lt
  obtain ⟨hc2x0, gc2x0⟩ := k2'''''''''''''.at_ 0 (x := .slice Aa1 M1.mem.length da1) rfl
  obtain ⟨hc2x1, gc2x1⟩ := k2'''''''''''''.at_ 1 (x := .slice Ba1 M1.ths.length ea1) rfl
  have l2 := k2'''''''''''''.lt
  obtain ⟨hc7x0, gc7x0⟩ := kg7''''''''''.at_ 0 (x := .slice A11 (spF x0 M1 a2).mem.length d11) rfl
  obtain ⟨hc7x1, gc7x1⟩ := kg7''''''''''.at_ 1 (x := .slice B11 (spF x0 M1 a2).ths.length e11) rfl
  have l7 := kg7''''''''''.lt
  obtain ⟨hc15x0, gc15x0⟩ := k15''''''''.at_ 0 (x := .int .i64 x0.c) rfl
  obtain ⟨hc15x1, gc15x1⟩ := k15''''''''.at_ 1 (x := .slice A13 x0.x.length d13) rfl
  have l15 := k15''''''''.lt
  obtain ⟨hc18x0, gc18x0⟩ := k18''''''.at_ 0 (x := .slice A16 M1.mem.length d16) rfl
  obtain ⟨hc18x1, gc18x1⟩ := k18''''''.at_ 1 (x := .slice B16 M1.ths.length e16) rfl
  have l18 := k18''''''.lt
  obtain ⟨hc22x0, gc22x0⟩ := k22''''.at_ 0 (x := .slice A20 (spF x0 M1 a2).mem.length d20) rfl
  obtain ⟨hc22x1, gc22x1⟩ := k22''''.at_ 1 (x := .slice B20 (spF x0 M1 a2).ths.length e20) rfl
  have l22 := k22''''.lt
  go_wp2_with fail
  refine (markMachine _ _ M1 bs16 (1 + (cntSS x0.x : Int)) _ ho16''''''' (by omega) (by omega) (by omega)).mono ?_
  rintro e w33 ⟨rfl, hq33, hon33⟩
  clear hc1x0 gc1x0 hc1x1 gc1x1 l1 hc2x0 gc2x0 hc2x1 gc2x1 l2 hc7x0 gc7x0 hc7x1 gc7x1 l7 hc15x0 gc15x0 hc15x1 gc15x1 l15 hc18x0 gc18x0 hc18x1 gc18x1 l18 hc22x0 gc22x0 hc22x1 gc22x1 l22
  have sz34 := hon33.size
  try simp only [World.size_alloc] at sz34
  have hB'''''''''''''''' := hB'''''''''''''''.trans (hon33.below hB'''''''''''''''.size (fun b hb => by have := lo16 b hb; omega))
  clear hB'''''''''''''''
  have k1''''''''''''''' := k1''''''''''''''.only hon33 (fun hm => by have := lo16 _ hm; have := hi16 _ hm; omega)
  clear k1''''''''''''''
  have k2'''''''''''''' := k2'''''''''''''.only hon33 (fun hm => by have := lo16 _ hm; have := hi16 _ hm; omega)
  clear k2'''''''''''''
  have kg7''''''''''' := kg7''''''''''.only hon33 (fun hm => by have := lo16 _ hm; have := hi16 _ hm; omega)
  clear kg7''''''''''
  have k15''''''''' := k15''''''''.only hon33 (fun hm => by have := lo16 _ hm; have := hi16 _ hm; omega)
  clear k15''''''''
  have k18''''''' := k18''''''.only hon33 (fun hm => by have := lo16 _ hm; have := hi16 _ hm; omega)
  clear k18''''''
  have k22''''' := k22''''.only hon33 (fun hm => by have := lo16 _ hm; have := hi16 _ hm; omega)
  clear k22''''
  have ho11''''''''''' := ho11''''''''''.only hon33 (fun b hb hm => by have := lo16 b hm; have := hi16 b hm; have := lo11 b hb; have := hi11 b hb; omega)
  clear ho11''''''''''
  have hq31' := hq31.only hon33 (fun b hb hm => by have := lo16 b hm; have := hi16 b hm; have := lo13 b hb; have := hi13 b hb; omega)
  clear hq31
  have ho20'''''' := ho20'''''.only hon33 (fun b hb hm => by have := lo16 b hm; have := hi16 b hm; have := lo20 b hb; have := hi20 b hb; omega)
  clear ho20'''''
  obtain ⟨hc1x0, gc1x0⟩ := k1'''''''''''''''.at_ 0 (x := .int .i64 x0.c) rfl
  obtain ⟨hc1x1, gc1x1⟩ := k1'''''''''''''''.at_ 1 (x := .slice Aa0 x0.x.length da0) rfl
  have l1 := k1'''''''''''''''.lt
  obtain ⟨hc2x0, gc2x0⟩ := k2''''''''''''''.at_ 0 (x := .slice Aa1 M1.mem.length da1) rfl
  obtain ⟨hc2x1, gc2x1⟩ := k2''''''''''''''.at_ 1 (x := .slice Ba1 M1.ths.length ea1) rfl
  have l2 := k2''''''''''''''.lt
  obtain ⟨hc7x0, gc7x0⟩ := kg7'''''''''''.at_ 0 (x := .slice A11 (spF x0 M1 a2).mem.length d11) rfl
  obtain ⟨hc7x1, gc7x1⟩ := kg7'''''''''''.at_ 1 (x := .slice B11 (spF x0 M1 a2).ths.length e11) rfl
  have l7 := kg7'''''''''''.lt
  obtain ⟨hc15x0, gc15x0⟩ := k15'''''''''.at_ 0 (x := .int .i64 x0.c) rfl
  obtain ⟨hc15x1, gc15x1⟩ := k15'''''''''.at_ 1 (x := .slice A13 x0.x.length d13) rfl
  have l15 := k15'''''''''.lt
  obtain ⟨hc18x0, gc18x0⟩ := k18'''''''.at_ 0 (x := .slice A16 M1.mem.length d16) rfl
  obtain ⟨hc18x1, gc18x1⟩ := k18'''''''.at_ 1 (x := .slice B16 M1.ths.length e16) rfl
  have l18 := k18'''''''.lt
  obtain ⟨hc22x0, gc22x0⟩ := k22'''''.at_ 0 (x := .slice A20 (spF x0 M1 a2).mem.length d20) rfl
  obtain ⟨hc22x1, gc22x1⟩ := k22'''''.at_ 1 (x := .slice B20 (spF x0 M1 a2).ths.length e20) rfl
  have l22 := k22'''''.lt
  go_wp2_with fail
  refine (eqMachine _ _ _ _ ((spF x0 M1 a2)) ((spF x0 M1 a2)) _ ho20''''''.rd ho11'''''''''''.rd).mono ?_
  rintro e w35 ⟨rfl, hb35⟩
  rw [decide_eq_true rfl]
  clear hc1x0 gc1x0 hc1x1 gc1x1 l1 hc2x0 gc2x0 hc2x1 gc2x1 l2 hc7x0 gc7x0 hc7x1 gc7x1 l7 hc15x0 gc15x0 hc15x1 gc15x1 l15 hc18x0 gc18x0 hc18x1 gc18x1 l18 hc22x0 gc22x0 hc22x1 gc22x1 l22
  have sz36 := hb35.size
  try simp only [World.size_alloc] at sz36
  have hB''''''''''''''''' := hB''''''''''''''''.trans (hb35.mono hB''''''''''''''''.size)
  clear hB''''''''''''''''
  have k1'''''''''''''''' := k1'''''''''''''''.below hb35 k1'''''''''''''''.lt
  clear k1'''''''''''''''
  have k2''''''''''''''' := k2''''''''''''''.below hb35 k2''''''''''''''.lt
  clear k2''''''''''''''
  have kg7'''''''''''' := kg7'''''''''''.below hb35 kg7'''''''''''.lt
  clear kg7'''''''''''
  have k15'''''''''' := k15'''''''''.below hb35 k15'''''''''.lt
  clear k15'''''''''
  have k18'''''''' := k18'''''''.below hb35 k18'''''''.lt
  clear k18'''''''
  have k22'''''' := k22'''''.below hb35 k22'''''.lt
  clear k22'''''
  have ho11'''''''''''' := ho11'''''''''''.below hb35
  clear ho11'''''''''''
  have hq31'' := hq31'.below hb35
  clear hq31'
  have hq33' := hq33.below hb35
  clear hq33
  have ho20''''''' := ho20''''''.below hb35
  clear ho20''''''
  obtain ⟨hc1x0, gc1x0⟩ := k1''''''''''''''''.at_ 0 (x := .int .i64 x0.c) rfl
  obtain ⟨hc1x1, gc1x1⟩ := k1''''''''''''''''.at_ 1 (x := .slice Aa0 x0.x.length da0) rfl
  have l1 := k1''''''''''''''''.lt
  obtain ⟨hc2x0, gc2x0⟩ := k2'''''''''''''''.at_ 0 (x := .slice Aa1 M1.mem.length da1) rfl
  obtain ⟨hc2x1, gc2x1⟩ := k2'''''''''''''''.at_ 1 (x := .slice Ba1 M1.ths.length ea1) rfl
  have l2 := k2'''''''''''''''.lt
  obtain ⟨hc7x0, gc7x0⟩ := kg7''''''''''''.at_ 0 (x := .slice A11 (spF x0 M1 a2).mem.length d11) rfl
  obtain ⟨hc7x1, gc7x1⟩ := kg7''''''''''''.at_ 1 (x := .slice B11 (spF x0 M1 a2).ths.length e11) rfl
  have l7 := kg7''''''''''''.lt
  obtain ⟨hc15x0, gc15x0⟩ := k15''''''''''.at_ 0 (x := .int .i64 x0.c) rfl
  obtain ⟨hc15x1, gc15x1⟩ := k15''''''''''.at_ 1 (x := .slice A13 x0.x.length d13) rfl
  have l15 := k15''''''''''.lt
  obtain ⟨hc18x0, gc18x0⟩ := k18''''''''.at_ 0 (x := .slice A16 M1.mem.length d16) rfl
  obtain ⟨hc18x1, gc18x1⟩ := k18''''''''.at_ 1 (x := .slice B16 M1.ths.length e16) rfl
  have l18 := k18''''''''.lt
  obtain ⟨hc22x0, gc22x0⟩ := k22''''''.at_ 0 (x := .slice A20 (spF x0 M1 a2).mem.length d20) rfl
  obtain ⟨hc22x1, gc22x1⟩ := k22''''''.at_ 1 (x := .slice B20 (spF x0 M1 a2).ths.length e20) rfl
  have l22 := k22''''''.lt
  go_wp2_with fail
  refine (markMachine _ _ (spF x0 M1 a2) bs20 (1) _ ho20''''''' (by omega) (by omega) (by omega)).mono ?_
  rintro e w37 ⟨rfl, hq37, hon37⟩
  clear hc1x0 gc1x0 hc1x1 gc1x1 l1 hc2x0 gc2x0 hc2x1 gc2x1 l2 hc7x0 gc7x0 hc7x1 gc7x1 l7 hc15x0 gc15x0 hc15x1 gc15x1 l15 hc18x0 gc18x0 hc18x1 gc18x1 l18 hc22x0 gc22x0 hc22x1 gc22x1 l22
  have sz38 := hon37.size
  try simp only [World.size_alloc] at sz38
  have hB'''''''''''''''''' := hB'''''''''''''''''.trans (hon37.below hB'''''''''''''''''.size (fun b hb => by have := lo20 b hb; omega))
  clear hB'''''''''''''''''
  have k1''''''''''''''''' := k1''''''''''''''''.only hon37 (fun hm => by have := lo20 _ hm; have := hi20 _ hm; omega)
  clear k1''''''''''''''''
  have k2'''''''''''''''' := k2'''''''''''''''.only hon37 (fun hm => by have := lo20 _ hm; have := hi20 _ hm; omega)
  clear k2'''''''''''''''
  have kg7''''''''''''' := kg7''''''''''''.only hon37 (fun hm => by have := lo20 _ hm; have := hi20 _ hm; omega)
  clear kg7''''''''''''
  have k15''''''''''' := k15''''''''''.only hon37 (fun hm => by have := lo20 _ hm; have := hi20 _ hm; omega)
  clear k15''''''''''
  have k18''''''''' := k18''''''''.only hon37 (fun hm => by have := lo20 _ hm; have := hi20 _ hm; omega)
  clear k18''''''''
  have k22''''''' := k22''''''.only hon37 (fun hm => by have := lo20 _ hm; have := hi20 _ hm; omega)
  clear k22''''''
  have ho11''''''''''''' := ho11''''''''''''.only hon37 (fun b hb hm => by have := lo20 b hm; have := hi20 b hm; have := lo11 b hb; have := hi11 b hb; omega)
  clear ho11''''''''''''
  have hq31''' := hq31''.only hon37 (fun b hb hm => by have := lo20 b hm; have := hi20 b hm; have := lo13 b hb; have := hi13 b hb; omega)
  clear hq31''
  have hq33'' := hq33'.only hon37 (fun b hb hm => by have := lo20 b hm; have := hi20 b hm; have := lo16 b hb; have := hi16 b hb; omega)
  clear hq33'
  obtain ⟨hc1x0, gc1x0⟩ := k1'''''''''''''''''.at_ 0 (x := .int .i64 x0.c) rfl
  obtain ⟨hc1x1, gc1x1⟩ := k1'''''''''''''''''.at_ 1 (x := .slice Aa0 x0.x.length da0) rfl
  have l1 := k1'''''''''''''''''.lt
  obtain ⟨hc2x0, gc2x0⟩ := k2''''''''''''''''.at_ 0 (x := .slice Aa1 M1.mem.length da1) rfl
  obtain ⟨hc2x1, gc2x1⟩ := k2''''''''''''''''.at_ 1 (x := .slice Ba1 M1.ths.length ea1) rfl
  have l2 := k2''''''''''''''''.lt
  obtain ⟨hc7x0, gc7x0⟩ := kg7'''''''''''''.at_ 0 (x := .slice A11 (spF x0 M1 a2).mem.length d11) rfl
  obtain ⟨hc7x1, gc7x1⟩ := kg7'''''''''''''.at_ 1 (x := .slice B11 (spF x0 M1 a2).ths.length e11) rfl
  have l7 := kg7'''''''''''''.lt
  obtain ⟨hc15x0, gc15x0⟩ := k15'''''''''''.at_ 0 (x := .int .i64 x0.c) rfl
  obtain ⟨hc15x1, gc15x1⟩ := k15'''''''''''.at_ 1 (x := .slice A13 x0.x.length d13) rfl
  have l15 := k15'''''''''''.lt
  obtain ⟨hc18x0, gc18x0⟩ := k18'''''''''.at_ 0 (x := .slice A16 M1.mem.length d16) rfl
  obtain ⟨hc18x1, gc18x1⟩ := k18'''''''''.at_ 1 (x := .slice B16 M1.ths.length e16) rfl
  have l18 := k18'''''''''.lt
  obtain ⟨hc22x0, gc22x0⟩ := k22'''''''.at_ 0 (x := .slice A20 (spF x0 M1 a2).mem.length d20) rfl
  obtain ⟨hc22x1, gc22x1⟩ := k22'''''''.at_ 1 (x := .slice B20 (spF x0 M1 a2).ths.length e20) rfl
  have l22 := k22'''''''.lt
  go_wp2_with fail
  refine (heldMachine _ _ (spF x0 M1 a2) (1) _ hq37.rd (by omega) (by omega) (by omega)).mono ?_
  rintro e w39 ⟨rfl, hb39⟩
  clear hc1x0 gc1x0 hc1x1 gc1x1 l1 hc2x0 gc2x0 hc2x1 gc2x1 l2 hc7x0 gc7x0 hc7x1 gc7x1 l7 hc15x0 gc15x0 hc15x1 gc15x1 l15 hc18x0 gc18x0 hc18x1 gc18x1 l18 hc22x0 gc22x0 hc22x1 gc22x1 l22
  have sz40 := hb39.size
  try simp only [World.size_alloc] at sz40
  have hB''''''''''''''''''' := hB''''''''''''''''''.trans (hb39.mono hB''''''''''''''''''.size)
  clear hB''''''''''''''''''
  have k1'''''''''''''''''' := k1'''''''''''''''''.below hb39 k1'''''''''''''''''.lt
  clear k1'''''''''''''''''
  have k2''''''''''''''''' := k2''''''''''''''''.below hb39 k2''''''''''''''''.lt
  clear k2''''''''''''''''
  have kg7'''''''''''''' := kg7'''''''''''''.below hb39 kg7'''''''''''''.lt
  clear kg7'''''''''''''
  have k15'''''''''''' := k15'''''''''''.below hb39 k15'''''''''''.lt
  clear k15'''''''''''
  have k18'''''''''' := k18'''''''''.below hb39 k18'''''''''.lt
  clear k18'''''''''
  have k22'''''''' := k22'''''''.below hb39 k22'''''''.lt
  clear k22'''''''
  have ho11'''''''''''''' := ho11'''''''''''''.below hb39
  clear ho11'''''''''''''
  have hq31'''' := hq31'''.below hb39
  clear hq31'''
  have hq33''' := hq33''.below hb39
  clear hq33''
  have hq37' := hq37.below hb39
  clear hq37
  obtain ⟨hc1x0, gc1x0⟩ := k1''''''''''''''''''.at_ 0 (x := .int .i64 x0.c) rfl
  obtain ⟨hc1x1, gc1x1⟩ := k1''''''''''''''''''.at_ 1 (x := .slice Aa0 x0.x.length da0) rfl
  have l1 := k1''''''''''''''''''.lt
  obtain ⟨hc2x0, gc2x0⟩ := k2'''''''''''''''''.at_ 0 (x := .slice Aa1 M1.mem.length da1) rfl
  obtain ⟨hc2x1, gc2x1⟩ := k2'''''''''''''''''.at_ 1 (x := .slice Ba1 M1.ths.length ea1) rfl
  have l2 := k2'''''''''''''''''.lt
  obtain ⟨hc7x0, gc7x0⟩ := kg7''''''''''''''.at_ 0 (x := .slice A11 (spF x0 M1 a2).mem.length d11) rfl
  obtain ⟨hc7x1, gc7x1⟩ := kg7''''''''''''''.at_ 1 (x := .slice B11 (spF x0 M1 a2).ths.length e11) rfl
  have l7 := kg7''''''''''''''.lt
  obtain ⟨hc15x0, gc15x0⟩ := k15''''''''''''.at_ 0 (x := .int .i64 x0.c) rfl
  obtain ⟨hc15x1, gc15x1⟩ := k15''''''''''''.at_ 1 (x := .slice A13 x0.x.length d13) rfl
  have l15 := k15''''''''''''.lt
  obtain ⟨hc18x0, gc18x0⟩ := k18''''''''''.at_ 0 (x := .slice A16 M1.mem.length d16) rfl
  obtain ⟨hc18x1, gc18x1⟩ := k18''''''''''.at_ 1 (x := .slice B16 M1.ths.length e16) rfl
  have l18 := k18''''''''''.lt
  obtain ⟨hc22x0, gc22x0⟩ := k22''''''''.at_ 0 (x := .slice A20 (spF x0 M1 a2).mem.length d20) rfl
  obtain ⟨hc22x1, gc22x1⟩ := k22''''''''.at_ 1 (x := .slice B20 (spF x0 M1 a2).ths.length e20) rfl
  have l22 := k22''''''''.lt
  go_wp2_with fail
  clear hc1x0 gc1x0 hc1x1 gc1x1 l1 hc2x0 gc2x0 hc2x1 gc2x1 l2 hc7x0 gc7x0 hc7x1 gc7x1 l7 hc15x0 gc15x0 hc15x1 gc15x1 l15 hc18x0 gc18x0 hc18x1 gc18x1 l18 hc22x0 gc22x0 hc22x1 gc22x1 l22
  obtain ⟨hc1x0, gc1x0⟩ := k1''''''''''''''''''.at_ 0 (x := .int .i64 x0.c) rfl
  obtain ⟨hc1x1, gc1x1⟩ := k1''''''''''''''''''.at_ 1 (x := .slice Aa0 x0.x.length da0) rfl
  have l1 := k1''''''''''''''''''.lt
  obtain ⟨hc2x0, gc2x0⟩ := k2'''''''''''''''''.at_ 0 (x := .slice Aa1 M1.mem.length da1) rfl
  obtain ⟨hc2x1, gc2x1⟩ := k2'''''''''''''''''.at_ 1 (x := .slice Ba1 M1.ths.length ea1) rfl
  have l2 := k2'''''''''''''''''.lt
  obtain ⟨hc7x0, gc7x0⟩ := kg7''''''''''''''.at_ 0 (x := .slice A11 (spF x0 M1 a2).mem.length d11) rfl
  obtain ⟨hc7x1, gc7x1⟩ := kg7''''''''''''''.at_ 1 (x := .slice B11 (spF x0 M1 a2).ths.length e11) rfl
  have l7 := kg7''''''''''''''.lt
  obtain ⟨hc15x0, gc15x0⟩ := k15''''''''''''.at_ 0 (x := .int .i64 x0.c) rfl
  obtain ⟨hc15x1, gc15x1⟩ := k15''''''''''''.at_ 1 (x := .slice A13 x0.x.length d13) rfl
  have l15 := k15''''''''''''.lt
  obtain ⟨hc18x0, gc18x0⟩ := k18''''''''''.at_ 0 (x := .slice A16 M1.mem.length d16) rfl
  obtain ⟨hc18x1, gc18x1⟩ := k18''''''''''.at_ 1 (x := .slice B16 M1.ths.length e16) rfl
  have l18 := k18''''''''''.lt
  obtain ⟨hc22x0, gc22x0⟩ := k22''''''''.at_ 0 (x := .slice A20 (spF x0 M1 a2).mem.length d20) rfl
  obtain ⟨hc22x1, gc22x1⟩ := k22''''''''.at_ 1 (x := .slice B20 (spF x0 M1 a2).ths.length e20) rfl
  have l22 := k22''''''''.lt
  have HS41 : Hid (∀ W : World, Below w39.heap.size w39 W → Below w39.heap.size w39 W ∧ W.cell? ⟨w.heap.size, 0, none⟩ = some (.int .i64 x0.c) ∧ W.cell? ⟨w.heap.size, 1, none⟩ = some (.slice Aa0 x0.x.length da0) ∧ W.cell? ⟨w.heap.size + 1, 0, none⟩ = some (.slice Aa1 M1.mem.length da1) ∧ W.cell? ⟨w.heap.size + 1, 1, none⟩ = some (.slice Ba1 M1.ths.length ea1)) := Lib.hid fun W hW => ⟨hW, (hW.cell (p := ⟨w.heap.size, 0, none⟩) k1''''''''''''''''''.lt).trans hc1x0, (hW.cell (p := ⟨w.heap.size, 1, none⟩) k1''''''''''''''''''.lt).trans hc1x1, (hW.cell (p := ⟨w.heap.size + 1, 0, none⟩) k2'''''''''''''''''.lt).trans hc2x0, (hW.cell (p := ⟨w.heap.size + 1, 1, none⟩) k2'''''''''''''''''.lt).trans hc2x1⟩
  have KN41 : Hid (Bk ((w39.alloc (.cells #[.slice none 0 0, .slice none 0 0] 38)).drew) w39.heap.size #[.slice none 0 0, .slice none 0 0] 38) := Lib.hid (Bk.new w39 #[.slice none 0 0, .slice none 0 0] 38)
  have HN41 : Hid (Below w39.heap.size w39 (w39.alloc (.cells #[.slice none 0 0, .slice none 0 0] 38)).drew) := Lib.hid ((Below.refl _ w39).alloc (Nat.le_refl _) _).drew
  have HB41 := Lib.hid hB'''''''''''''''''''
  have nb41x1 : w.heap.size ≠ w39.heap.size := by have := k1''''''''''''''''''.lt; omega
  have nb41x2 : w.heap.size + 1 ≠ w39.heap.size := by have := k2'''''''''''''''''.lt; omega
  go_cut [17, 18] (fun p41x0 p41x1 wz => ∃ (A45 : Option Addr) (d45 : Nat) (B45 : Option Addr) (e45 : Nat) (bs45 : List Nat) (g41 : Nat), p41x0 = .pointer (some ⟨g41, 0, none⟩) ∧ p41x1 = .bool (spB x0 M1 a2) ∧ OwnMa wz (.slice A45 (spF x0 M1 a2).mem.length d45) (.slice B45 (spF x0 M1 a2).ths.length e45) (spF x0 M1 a2) bs45 ∧ (∀ b ∈ bs45, w39.heap.size ≤ b) ∧ Bk wz g41 #[.slice A45 (spF x0 M1 a2).mem.length d45, .slice B45 (spF x0 M1 a2).ths.length e45] 38 ∧ w39.heap.size ≤ g41 ∧ Below w39.heap.size w39 wz)
  case first =>
    go_region_held3 (fun W => Below w39.heap.size w39 W ∧ W.cell? ⟨w.heap.size, 0, none⟩ = some (.int .i64 x0.c) ∧ W.cell? ⟨w.heap.size, 1, none⟩ = some (.slice Aa0 x0.x.length da0) ∧ W.cell? ⟨w.heap.size + 1, 0, none⟩ = some (.slice Aa1 M1.mem.length da1) ∧ W.cell? ⟨w.heap.size + 1, 1, none⟩ = some (.slice Ba1 M1.ths.length ea1)) (first | (exact HS41.out _ (Below.refl _ _).drew) | (exact HS41.out _ HN41.out) | (exact HS41.out _ (hS41x0.alloc hS41x0.size _)) | (exact HS41.out _ (hS41x1.alloc hS41x1.size _)) | (exact HS41.out _ (hS41x2.alloc hS41x2.size _)) | (exact HS41.out _ ((hS41x2.setCell (Nat.le_refl _) _).setCell (Nat.le_refl _) _)) | (exact HS41.out _ ((hS41x2.setCell hS41x0.size _).setCell hS41x0.size _)) | (exact HS41.out _ ((hS41x2.setCell hS41x1.size _).setCell hS41x1.size _)) | (exact HS41.out _ ((hS41x2.setCell hS41x2.size _).setCell hS41x2.size _)) | (exact HS41.out _ (by assumption)))
      (first
        | (go_at_call_of 10 (Value.agg #[Value.int .i64 x0.c, Value.slice Aa0 x0.x.length da0] : Value); have hS := ‹Below w39.heap.size w39 _ ∧ _›.1; refine (toProg _ x0 _ (HAaP.out.below (HB41.out.trans (hS.mono HB41.out.size))) (by omega)).mono ?_; rintro e w42 ⟨v42x0, bs42, rfl, ho42, lo42, hb42⟩; have hS41x0 := hS.trans (hb42.mono hS.size); clear hS; (first | (have q41x0 := KN41.out.below hb42 KN41.out.lt) | skip))
        | (go_at_call_of 11 (Value.agg #[Value.slice Aa1 M1.mem.length da1, Value.slice Ba1 M1.ths.length ea1] : Value); have hS := ‹Below w39.heap.size w39 _ ∧ _›.1; refine (toMachine _ _ M1 _ (HAaM.out.below (HB41.out.trans (hS.mono HB41.out.size))) (by omega)).mono ?_; rintro e w43 ⟨v43x0, v43x1, bs43, rfl, ho43, lo43, hb43⟩; have hS41x1 := hS.trans (hb43.mono hS.size); clear hS; (first | (have ho42 := ho42.below hb43) | (have ho42 := (ho42.below ((Below.refl _ w42).alloc (Nat.le_refl _) (.cells #[.slice none 0 0, .slice none 0 0] 38))).below hb43)); (first | (have q41x1 := q41x0.below hb43 q41x0.lt) | (have q41x1 := (Bk.new w42 #[.slice none 0 0, .slice none 0 0] 38).below hb43 (Bk.new w42 #[.slice none 0 0, .slice none 0 0] 38).lt) | skip))
        | (go_at_call 20; have hS := ‹Below w39.heap.size w39 _ ∧ _›.1; refine (impl_StepPlain _ _ _ x0 M1 a2 _ ho42.rd ho43.rd (by omega)).mono ?_; rintro e w44 ⟨v45x0, v45x1, bs45, rfl, ho45, lo45, hb44⟩; have hS41x2 := hS.trans (hb44.mono hS.size); clear hS; obtain ⟨A45, d45, B45, e45, rfl, rfl⟩ := ho45.slices; (first | (have q41x2 := q41x1.below hb44 q41x1.lt) | (have q41x2 := (Bk.new w43 #[.slice none 0 0, .slice none 0 0] 38).below hb44 (Bk.new w43 #[.slice none 0 0, .slice none 0 0] 38).lt) | skip); try (obtain ⟨hq41, hg41⟩ := q41x2.at_ 0 (x := .slice none 0 0) rfl); try (obtain ⟨hq41b, hg41b⟩ := q41x2.at_ 1 (x := .slice none 0 0) rfl))
        | (go_at_call 20; have hS := ‹Below w39.heap.size w39 _ ∧ _›.1; refine (impl_StepPlain _ _ _ x0 M1 a2 _ (ho42.below ((Below.refl _ w43).alloc (Nat.le_refl _) (.cells #[.slice none 0 0, .slice none 0 0] 38))).rd (ho43.below ((Below.refl _ w43).alloc (Nat.le_refl _) (.cells #[.slice none 0 0, .slice none 0 0] 38))).rd (by omega)).mono ?_; rintro e w44 ⟨v45x0, v45x1, bs45, rfl, ho45, lo45, hb44⟩; have hS41x2 := hS.trans (hb44.mono hS.size); clear hS; obtain ⟨A45, d45, B45, e45, rfl, rfl⟩ := ho45.slices; (first | (have q41x2 := q41x1.below hb44 q41x1.lt) | (have q41x2 := (Bk.new w43 #[.slice none 0 0, .slice none 0 0] 38).below hb44 (Bk.new w43 #[.slice none 0 0, .slice none 0 0] 38).lt) | skip); try (obtain ⟨hq41, hg41⟩ := q41x2.at_ 0 (x := .slice none 0 0) rfl); try (obtain ⟨hq41b, hg41b⟩ := q41x2.at_ 1 (x := .slice none 0 0) rfl)))
    all_goals go_wp2_with fail
    all_goals go_meet
    all_goals (try have s41w42 := hS41x0.size)
    all_goals (try have s41w43 := hS41x1.size)
    all_goals (try have t41hb42 := hb42.size)
    all_goals (try simp at t41hb42)
    all_goals (try have t41hb43 := hb43.size)
    all_goals (try simp at t41hb43)
    all_goals (try have t41hb44 := hb44.size)
    all_goals (try simp at t41hb44)
    all_goals (first | exact ⟨A45, d45, B45, e45, bs45, _, rfl, rfl, ho45.below ((Below.refl _ _).alloc (Nat.le_refl _) _), fun b hb => Nat.le_trans (by first | omega | (simp; omega) | simp) (lo45 b hb), Bk.new _ _ _, hS41x2.size, hS41x2.alloc hS41x2.size _⟩ | exact ⟨A45, d45, B45, e45, bs45, _, rfl, rfl, (ho45.far (fun k hk => by have := lo45 k hk; (try simp only [World.size_alloc] at this); omega)).far (fun k hk => by have := lo45 k hk; (try simp only [World.size_alloc] at this); omega), fun b hb => Nat.le_trans (by first | omega | (simp; omega) | simp) (lo45 b hb), by simpa using (q41x2.set_ 0 (.slice A45 (spF x0 M1 a2).mem.length d45)).set_ 1 (.slice B45 (spF x0 M1 a2).ths.length e45), by first | exact Nat.le_refl _ | omega, (hS41x2.setCell (by first | exact Nat.le_refl _ | (show w39.heap.size ≤ _; omega)) _).setCell (by first | exact Nat.le_refl _ | (show w39.heap.size ≤ _; omega)) _⟩)
  obtain ⟨A45, d45, B45, e45, bs45, g41, rfl, rfl, ho45, lo45, kg41, hgl41, hBc41⟩ := hcut
  rename World => wc41
  have hgt41 := kg41.lt
  clear HS41 KN41 HN41 HB41 nb41x1 nb41x2
  clear hc1x0 gc1x0 hc1x1 gc1x1 l1 hc2x0 gc2x0 hc2x1 gc2x1 l2 hc7x0 gc7x0 hc7x1 gc7x1 l7 hc15x0 gc15x0 hc15x1 gc15x1 l15 hc18x0 gc18x0 hc18x1 gc18x1 l18 hc22x0 gc22x0 hc22x1 gc22x1 l22
  have sz46 := hBc41.size
  try simp only [World.size_alloc] at sz46
  have hB'''''''''''''''''''' := hB'''''''''''''''''''.trans (hBc41.mono hB'''''''''''''''''''.size)
  clear hB'''''''''''''''''''
  have k1''''''''''''''''''' := k1''''''''''''''''''.below hBc41 k1''''''''''''''''''.lt
  clear k1''''''''''''''''''
  have k2'''''''''''''''''' := k2'''''''''''''''''.below hBc41 k2'''''''''''''''''.lt
  clear k2'''''''''''''''''
  have kg7''''''''''''''' := kg7''''''''''''''.below hBc41 kg7''''''''''''''.lt
  clear kg7''''''''''''''
  have k15''''''''''''' := k15''''''''''''.below hBc41 k15''''''''''''.lt
  clear k15''''''''''''
  have k18''''''''''' := k18''''''''''.below hBc41 k18''''''''''.lt
  clear k18''''''''''
  have k22''''''''' := k22''''''''.below hBc41 k22''''''''.lt
  clear k22''''''''
  have ho11''''''''''''''' := ho11''''''''''''''.below hBc41
  clear ho11''''''''''''''
  have hq31''''' := hq31''''.below hBc41
  clear hq31''''
  have hq33'''' := hq33'''.below hBc41
  clear hq33'''
  have hq37'' := hq37'.below hBc41
  clear hq37'
  have hi45 := ho45.lt
  obtain ⟨hc1x0, gc1x0⟩ := k1'''''''''''''''''''.at_ 0 (x := .int .i64 x0.c) rfl
  obtain ⟨hc1x1, gc1x1⟩ := k1'''''''''''''''''''.at_ 1 (x := .slice Aa0 x0.x.length da0) rfl
  have l1 := k1'''''''''''''''''''.lt
  obtain ⟨hc2x0, gc2x0⟩ := k2''''''''''''''''''.at_ 0 (x := .slice Aa1 M1.mem.length da1) rfl
  obtain ⟨hc2x1, gc2x1⟩ := k2''''''''''''''''''.at_ 1 (x := .slice Ba1 M1.ths.length ea1) rfl
  have l2 := k2''''''''''''''''''.lt
  obtain ⟨hc7x0, gc7x0⟩ := kg7'''''''''''''''.at_ 0 (x := .slice A11 (spF x0 M1 a2).mem.length d11) rfl
  obtain ⟨hc7x1, gc7x1⟩ := kg7'''''''''''''''.at_ 1 (x := .slice B11 (spF x0 M1 a2).ths.length e11) rfl
  have l7 := kg7'''''''''''''''.lt
  obtain ⟨hc15x0, gc15x0⟩ := k15'''''''''''''.at_ 0 (x := .int .i64 x0.c) rfl
  obtain ⟨hc15x1, gc15x1⟩ := k15'''''''''''''.at_ 1 (x := .slice A13 x0.x.length d13) rfl
  have l15 := k15'''''''''''''.lt
  obtain ⟨hc18x0, gc18x0⟩ := k18'''''''''''.at_ 0 (x := .slice A16 M1.mem.length d16) rfl
  obtain ⟨hc18x1, gc18x1⟩ := k18'''''''''''.at_ 1 (x := .slice B16 M1.ths.length e16) rfl
  have l18 := k18'''''''''''.lt
  obtain ⟨hc22x0, gc22x0⟩ := k22'''''''''.at_ 0 (x := .slice A20 (spF x0 M1 a2).mem.length d20) rfl
  obtain ⟨hc22x1, gc22x1⟩ := k22'''''''''.at_ 1 (x := .slice B20 (spF x0 M1 a2).ths.length e20) rfl
  have l22 := k22'''''''''.lt
  obtain ⟨hc41x0, gc41x0⟩ := kg41.at_ 0 (x := .slice A45 (spF x0 M1 a2).mem.length d45) rfl
  obtain ⟨hc41x1, gc41x1⟩ := kg41.at_ 1 (x := .slice B45 (spF x0 M1 a2).ths.length e45) rfl
  have l41 := kg41.lt
  go_wp2_with fail
  refine (eqMachine _ _ _ _ ((spF x0 M1 a2)) ((spF x0 M1 a2)) _ ho45.rd ho11'''''''''''''''.rd).mono ?_
  rintro e w47 ⟨rfl, hb47⟩
  rw [decide_eq_true rfl]
  clear hc1x0 gc1x0 hc1x1 gc1x1 l1 hc2x0 gc2x0 hc2x1 gc2x1 l2 hc7x0 gc7x0 hc7x1 gc7x1 l7 hc15x0 gc15x0 hc15x1 gc15x1 l15 hc18x0 gc18x0 hc18x1 gc18x1 l18 hc22x0 gc22x0 hc22x1 gc22x1 l22 hc41x0 gc41x0 hc41x1 gc41x1 l41
  have sz48 := hb47.size
  try simp only [World.size_alloc] at sz48
  have hB''''''''''''''''''''' := hB''''''''''''''''''''.trans (hb47.mono hB''''''''''''''''''''.size)
  clear hB''''''''''''''''''''
  have k1'''''''''''''''''''' := k1'''''''''''''''''''.below hb47 k1'''''''''''''''''''.lt
  clear k1'''''''''''''''''''
  have k2''''''''''''''''''' := k2''''''''''''''''''.below hb47 k2''''''''''''''''''.lt
  clear k2''''''''''''''''''
  have kg7'''''''''''''''' := kg7'''''''''''''''.below hb47 kg7'''''''''''''''.lt
  clear kg7'''''''''''''''
  have k15'''''''''''''' := k15'''''''''''''.below hb47 k15'''''''''''''.lt
  clear k15'''''''''''''
  have k18'''''''''''' := k18'''''''''''.below hb47 k18'''''''''''.lt
  clear k18'''''''''''
  have k22'''''''''' := k22'''''''''.below hb47 k22'''''''''.lt
  clear k22'''''''''
  have kg41' := kg41.below hb47 kg41.lt
  clear kg41
  have ho11'''''''''''''''' := ho11'''''''''''''''.below hb47
  clear ho11'''''''''''''''
  have hq31'''''' := hq31'''''.below hb47
  clear hq31'''''
  have hq33''''' := hq33''''.below hb47
  clear hq33''''
  have hq37''' := hq37''.below hb47
  clear hq37''
  have ho45' := ho45.below hb47
  clear ho45
  obtain ⟨hc1x0, gc1x0⟩ := k1''''''''''''''''''''.at_ 0 (x := .int .i64 x0.c) rfl
  obtain ⟨hc1x1, gc1x1⟩ := k1''''''''''''''''''''.at_ 1 (x := .slice Aa0 x0.x.length da0) rfl
  have l1 := k1''''''''''''''''''''.lt
  obtain ⟨hc2x0, gc2x0⟩ := k2'''''''''''''''''''.at_ 0 (x := .slice Aa1 M1.mem.length da1) rfl
  obtain ⟨hc2x1, gc2x1⟩ := k2'''''''''''''''''''.at_ 1 (x := .slice Ba1 M1.ths.length ea1) rfl
  have l2 := k2'''''''''''''''''''.lt
  obtain ⟨hc7x0, gc7x0⟩ := kg7''''''''''''''''.at_ 0 (x := .slice A11 (spF x0 M1 a2).mem.length d11) rfl
  obtain ⟨hc7x1, gc7x1⟩ := kg7''''''''''''''''.at_ 1 (x := .slice B11 (spF x0 M1 a2).ths.length e11) rfl
  have l7 := kg7''''''''''''''''.lt
  obtain ⟨hc15x0, gc15x0⟩ := k15''''''''''''''.at_ 0 (x := .int .i64 x0.c) rfl
  obtain ⟨hc15x1, gc15x1⟩ := k15''''''''''''''.at_ 1 (x := .slice A13 x0.x.length d13) rfl
  have l15 := k15''''''''''''''.lt
  obtain ⟨hc18x0, gc18x0⟩ := k18''''''''''''.at_ 0 (x := .slice A16 M1.mem.length d16) rfl
  obtain ⟨hc18x1, gc18x1⟩ := k18''''''''''''.at_ 1 (x := .slice B16 M1.ths.length e16) rfl
  have l18 := k18''''''''''''.lt
  obtain ⟨hc22x0, gc22x0⟩ := k22''''''''''.at_ 0 (x := .slice A20 (spF x0 M1 a2).mem.length d20) rfl
  obtain ⟨hc22x1, gc22x1⟩ := k22''''''''''.at_ 1 (x := .slice B20 (spF x0 M1 a2).ths.length e20) rfl
  have l22 := k22''''''''''.lt
  obtain ⟨hc41x0, gc41x0⟩ := kg41'.at_ 0 (x := .slice A45 (spF x0 M1 a2).mem.length d45) rfl
  obtain ⟨hc41x1, gc41x1⟩ := kg41'.at_ 1 (x := .slice B45 (spF x0 M1 a2).ths.length e45) rfl
  have l41 := kg41'.lt
  go_wp2_with fail
  refine (heldMachine _ _ (spF x0 M1 a2) (1) _ hq37'''.rd (by omega) (by omega) (by omega)).mono ?_
  rintro e w49 ⟨rfl, hb49⟩
  clear hc1x0 gc1x0 hc1x1 gc1x1 l1 hc2x0 gc2x0 hc2x1 gc2x1 l2 hc7x0 gc7x0 hc7x1 gc7x1 l7 hc15x0 gc15x0 hc15x1 gc15x1 l15 hc18x0 gc18x0 hc18x1 gc18x1 l18 hc22x0 gc22x0 hc22x1 gc22x1 l22 hc41x0 gc41x0 hc41x1 gc41x1 l41
  have sz50 := hb49.size
  try simp only [World.size_alloc] at sz50
  have hB'''''''''''''''''''''' := hB'''''''''''''''''''''.trans (hb49.mono hB'''''''''''''''''''''.size)
  clear hB'''''''''''''''''''''
  have k1''''''''''''''''''''' := k1''''''''''''''''''''.below hb49 k1''''''''''''''''''''.lt
  clear k1''''''''''''''''''''
  have k2'''''''''''''''''''' := k2'''''''''''''''''''.below hb49 k2'''''''''''''''''''.lt
  clear k2'''''''''''''''''''
  have kg7''''''''''''''''' := kg7''''''''''''''''.below hb49 kg7''''''''''''''''.lt
  clear kg7''''''''''''''''
  have k15''''''''''''''' := k15''''''''''''''.below hb49 k15''''''''''''''.lt
  clear k15''''''''''''''
  have k18''''''''''''' := k18''''''''''''.below hb49 k18''''''''''''.lt
  clear k18''''''''''''
  have k22''''''''''' := k22''''''''''.below hb49 k22''''''''''.lt
  clear k22''''''''''
  have kg41'' := kg41'.below hb49 kg41'.lt
  clear kg41'
  have ho11''''''''''''''''' := ho11''''''''''''''''.below hb49
  clear ho11''''''''''''''''
  have hq31''''''' := hq31''''''.below hb49
  clear hq31''''''
  have hq33'''''' := hq33'''''.below hb49
  clear hq33'''''
  have hq37'''' := hq37'''.below hb49
  clear hq37'''
  have ho45'' := ho45'.below hb49
  clear ho45'
  obtain ⟨hc1x0, gc1x0⟩ := k1'''''''''''''''''''''.at_ 0 (x := .int .i64 x0.c) rfl
  obtain ⟨hc1x1, gc1x1⟩ := k1'''''''''''''''''''''.at_ 1 (x := .slice Aa0 x0.x.length da0) rfl
  have l1 := k1'''''''''''''''''''''.lt
  obtain ⟨hc2x0, gc2x0⟩ := k2''''''''''''''''''''.at_ 0 (x := .slice Aa1 M1.mem.length da1) rfl
  obtain ⟨hc2x1, gc2x1⟩ := k2''''''''''''''''''''.at_ 1 (x := .slice Ba1 M1.ths.length ea1) rfl
  have l2 := k2''''''''''''''''''''.lt
  obtain ⟨hc7x0, gc7x0⟩ := kg7'''''''''''''''''.at_ 0 (x := .slice A11 (spF x0 M1 a2).mem.length d11) rfl
  obtain ⟨hc7x1, gc7x1⟩ := kg7'''''''''''''''''.at_ 1 (x := .slice B11 (spF x0 M1 a2).ths.length e11) rfl
  have l7 := kg7'''''''''''''''''.lt
  obtain ⟨hc15x0, gc15x0⟩ := k15'''''''''''''''.at_ 0 (x := .int .i64 x0.c) rfl
  obtain ⟨hc15x1, gc15x1⟩ := k15'''''''''''''''.at_ 1 (x := .slice A13 x0.x.length d13) rfl
  have l15 := k15'''''''''''''''.lt
  obtain ⟨hc18x0, gc18x0⟩ := k18'''''''''''''.at_ 0 (x := .slice A16 M1.mem.length d16) rfl
  obtain ⟨hc18x1, gc18x1⟩ := k18'''''''''''''.at_ 1 (x := .slice B16 M1.ths.length e16) rfl
  have l18 := k18'''''''''''''.lt
  obtain ⟨hc22x0, gc22x0⟩ := k22'''''''''''.at_ 0 (x := .slice A20 (spF x0 M1 a2).mem.length d20) rfl
  obtain ⟨hc22x1, gc22x1⟩ := k22'''''''''''.at_ 1 (x := .slice B20 (spF x0 M1 a2).ths.length e20) rfl
  have l22 := k22'''''''''''.lt
  obtain ⟨hc41x0, gc41x0⟩ := kg41''.at_ 0 (x := .slice A45 (spF x0 M1 a2).mem.length d45) rfl
  obtain ⟨hc41x1, gc41x1⟩ := kg41''.at_ 1 (x := .slice B45 (spF x0 M1 a2).ths.length e45) rfl
  have l41 := kg41''.lt
  go_wp2_with fail
  go_ret
  exact ⟨rfl, hB''''''''''''''''''''''⟩
set_option maxRecDepth 100000 in
theorem lift_StepPlain (os : Os) (started : os.Started) (H : Type) (enc : TypeId × Value → H) :
    ReturnsInHanded {} Tryz.checked os 4 .any (Rows.fnExactStepPlainSpec.pre6 enc Tryz.prog Tryz.f4 Rows.fnExactStepPlainRow.domain false) (Rows.fnExactStepPlainSpec.post enc Tryz.prog Tryz.f4 false true false false) := by
  refine returnsInHanded_of_change (C := Tryz.checked) (by kernel_rfl) started (by kernel_rfl) Tryz.func4
    (ChangeSpec.witness6 (enc := enc) (C := Tryz.checked) false ⟨#[], #[.agg #[.int .i64 0, .slice none 0 0], .agg #[.slice none 0 0, .slice none 0 0], .int .i64 0], []⟩ 8 (by kernel_rfl) (by kernel_rfl) (by kernel_rfl) (by kernel_rfl)) ?_
  intro W base args ds gs before hval0 hW hcnd _
  have hval : ∀ (j : Nat) t v, Tryz.f4.params[j]? = some t → args[j]? = some v → Value.okWide Tryz.prog W .any base t v := hval0
  have hW' := hW
  obtain ⟨p, q, hA0, hV, rfl, hfz, hnd⟩ := hW
  have hA : DataW.TrodAll enc Tryz.prog W 0 (fun _ => true) true Tryz.f4.params.toList args.toList ds p := hA0
  rw [Tryz.params4] at hA hval
  obtain ⟨v0, vs0, d0, ds0, p0, q0, hargs, rfl, rfl, h0, r0⟩ := trodAll_cons hA
  obtain ⟨v1, vs1, d1, ds1, p1, q1, rfl, rfl, rfl, h1, r1⟩ := trodAll_cons r0
  obtain ⟨v2, vs2, d2, ds2, p2, q2, rfl, rfl, rfl, h2, r2⟩ := trodAll_cons r1
  obtain ⟨rfl, rfl, rfl⟩ := trodAll_nil r2
  obtain rfl : args = #[v0, v1, v2] := by cases args; simp_all
  obtain ⟨rfl, rfl⟩ := trodVars_none hV
  obtain ⟨c0, x0, rfl, hR0⟩ := read_prog Tryz.underlying24 ⟨rfl, rfl⟩ ⟨rfl, rfl⟩ (by decide +kernel) (by kernel_rfl) Tryz.underlying3 Tryz.underlying22 (by kernel_rfl) Tryz.underlying110 Tryz.underlying150 (by kernel_rfl) ⟨rfl, rfl, rfl, rfl⟩ (by decide +kernel) ⟨Tryz.underlying3, Tryz.underlying3, Tryz.underlying3, Tryz.underlying3⟩ (hval 0 _ v0 rfl rfl) h0
  obtain ⟨c1, u1, M1, rfl, hR1, hI1⟩ := read_machine Tryz.underlying30 (by kernel_rfl) ⟨rfl, rfl⟩ (by decide +kernel) Tryz.underlying27 rfl (by kernel_rfl) Tryz.underlying25 Tryz.underlying3 (by kernel_rfl) Tryz.underlying28 thTypeL (hval 1 _ v1 rfl rfl) h1
  obtain ⟨a2, rfl, rfl, rfl, w2⟩ := open_int Tryz.underlying3 (hval 2 _ v2 rfl rfl) h2
  refine (walk_StepPlain c0 x0 _ _ M1 a2 W hR0 hR1 w2).mono fun e W' ⟨he, hb⟩ => ?_
  subst he
  exact ⟨_, rfl, post_law (by kernel_rfl) rfl rfl (by kernel_rfl) Tryz.underlying4 (of_decide_eq_true (by kernel_rfl)) hW' hb⟩
theorem FnExactStepPlain_holds : Rows.FnExactStepPlainSaid :=
  OpenClaim.holds_of_wide 4 Tryz.f4 rfl rfl rfl rfl rfl rfl rfl ⟨rfl, rfl, rfl, rfl, rfl⟩ rfl rfl rfl rfl rfl (by kernel_rfl) Tryz.func4 (by kernel_rfl)
    (of_decide_eq_true (by kernel_rfl)) (by unfold Func.isWrapper; first | (rw [if_pos (by decide +kernel)]; kernel_rfl) | (rw [if_neg (by decide +kernel)]; exact ⟨rfl, rfl⟩))
    (fun os started H enc _ => lift_StepPlain os started H enc)
#print axioms FnExactStepPlain_holds
end Go.Proofs.YtiflooopfpcelaaGreat
