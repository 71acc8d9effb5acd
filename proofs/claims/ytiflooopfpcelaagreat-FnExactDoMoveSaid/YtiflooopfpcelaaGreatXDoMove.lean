/- FnExactDoMove answers true at every input: DoMove answers as its model does, leaves its arguments alone and owns its answer. Conditions: none. -/
import Derived.Test.YtiflooopfpcelaaGreatK1
import Derived.Test.YtiflooopfpcelaaGreatM6
import Derived.Test.YtiflooopfpcelaaGreatC18
import Derived.Test.YtiflooopfpcelaaGreatC22
import Derived.Deep.RegionHeld3
namespace Go.Proofs.YtiflooopfpcelaaGreat
set_option maxRecDepth 20000
set_option linter.unusedSimpArgs false
set_option linter.unusedVariables false
open Go.ChangeShapes Go.WideShapes Go.ChangeAt Go.RowKit
set_option linter.unusedVariables false
set_option maxHeartbeats 4000000 in
theorem walk_DoMove (v0 : Value) (x0 : Pr) (v1 u1 : Value) (M1 : Ma) (m2 : Mv) (w : World) (hA0 : RdASS w v0 x0.x) (hA1 : RdAMa w v1 u1 M1) :
    Calls Tryz.prog 3 #[.agg #[.int .i64 x0.c, v0], .agg #[v1, u1], .agg #[.int .i64 m2.t, .bool m2.d]] w fun e w' => e = .returned (.bool true) ∧ Below w.heap.size w w' := by
  obtain ⟨-, ⟨Aa0, da0, rfl, -, -, -, -⟩, -⟩ := id hA0
  have HAaP := Lib.hid hA0
  clear hA0
  obtain ⟨Aa1, da1, Ba1, ea1, rfl, rfl⟩ := hA1.slices
  have HAaM := Lib.hid hA1
  clear hA1
  have hqs := cntSS_all x0.x
  have hqt := doF_tot x0 M1 m2
  have hqm := cntMa_le (doF x0 M1 m2)
  have hqn := cntMa_le M1
  have hB := Below.refl w.heap.size w
  go_enter Tryz.func3, Tryz.ntmps3
  go_wp2_with fail
  have hB' := hB.alloc hB.size (.cells #[.int .i64 x0.c, .slice Aa0 x0.x.length da0] 24)
  clear hB
  have k1 := Bk.new w #[.int .i64 x0.c, .slice Aa0 x0.x.length da0] 24
  have k1' := k1.alloc (.cells #[.slice Aa1 M1.mem.length da1, .slice Ba1 M1.ths.length ea1] 30)
  clear k1
  have hB'' := hB'.alloc hB'.size (.cells #[.slice Aa1 M1.mem.length da1, .slice Ba1 M1.ths.length ea1] 30)
  clear hB'
  have k2 := Bk.new (w.alloc (.cells #[.int .i64 x0.c, .slice Aa0 x0.x.length da0] 24)) #[.slice Aa1 M1.mem.length da1, .slice Ba1 M1.ths.length ea1] 30
  simp only [World.size_alloc] at k2
  have k1'' := k1'.alloc (.cells #[.int .i64 m2.t, .bool m2.d] 32)
  clear k1'
  have k2' := k2.alloc (.cells #[.int .i64 m2.t, .bool m2.d] 32)
  clear k2
  have hB''' := hB''.alloc hB''.size (.cells #[.int .i64 m2.t, .bool m2.d] 32)
  clear hB''
  have k3 := Bk.new ((w.alloc (.cells #[.int .i64 x0.c, .slice Aa0 x0.x.length da0] 24)).alloc (.cells #[.slice Aa1 M1.mem.length da1, .slice Ba1 M1.ths.length ea1] 30)) #[.int .i64 m2.t, .bool m2.d] 32
  simp only [World.size_alloc] at k3
  refine (szProg _ x0 (1048576) _ (HAaP.out.below hB''') (by omega) (by omega)).mono ?_
  rintro e w4 ⟨rfl, hb4⟩
  have sz5 := hb4.size
  try simp only [World.size_alloc] at sz5
  have hB'''' := hB'''.trans (hb4.mono hB'''.size)
  clear hB'''
  have k1''' := k1''.below hb4 k1''.lt
  clear k1''
  have k2'' := k2'.below hb4 k2'.lt
  clear k2'
  have k3' := k3.below hb4 k3.lt
  clear k3
  by_cases hn4 : (1048576 : Int) - (totSS x0.x) < 0
  · rw [show szF (totSS x0.x) (1048576) = -1 by unfold szF; rw [if_pos hn4]]
    go_wp2_with fail
    go_ret
    exact ⟨rfl, hB''''⟩
  rw [show szF (totSS x0.x) (1048576) = 1048576 - (totSS x0.x) by unfold szF; rw [if_neg hn4]]
  obtain ⟨hc1x0, gc1x0⟩ := k1'''.at_ 0 (x := .int .i64 x0.c) rfl
  obtain ⟨hc1x1, gc1x1⟩ := k1'''.at_ 1 (x := .slice Aa0 x0.x.length da0) rfl
  have l1 := k1'''.lt
  obtain ⟨hc2x0, gc2x0⟩ := k2''.at_ 0 (x := .slice Aa1 M1.mem.length da1) rfl
  obtain ⟨hc2x1, gc2x1⟩ := k2''.at_ 1 (x := .slice Ba1 M1.ths.length ea1) rfl
  have l2 := k2''.lt
  obtain ⟨hc3x0, gc3x0⟩ := k3'.at_ 0 (x := .int .i64 m2.t) rfl
  obtain ⟨hc3x1, gc3x1⟩ := k3'.at_ 1 (x := .bool m2.d) rfl
  have l3 := k3'.lt
  go_wp2_with fail
  refine (szMachine _ _ M1 (1048576 - (totSS x0.x)) _ (HAaM.out.below hB'''') (by omega) (by omega)).mono ?_
  rintro e w6 ⟨rfl, hb6⟩
  clear hc1x0 gc1x0 hc1x1 gc1x1 l1 hc2x0 gc2x0 hc2x1 gc2x1 l2 hc3x0 gc3x0 hc3x1 gc3x1 l3
  have sz7 := hb6.size
  try simp only [World.size_alloc] at sz7
  have hB''''' := hB''''.trans (hb6.mono hB''''.size)
  clear hB''''
  have k1'''' := k1'''.below hb6 k1'''.lt
  clear k1'''
  have k2''' := k2''.below hb6 k2''.lt
  clear k2''
  have k3'' := k3'.below hb6 k3'.lt
  clear k3'
  by_cases hn6 : (1048576 - (totSS x0.x) : Int) - (totMa M1) < 0
  · rw [show szF (totMa M1) (1048576 - (totSS x0.x)) = -1 by unfold szF; rw [if_pos hn6]]
    go_wp2_with fail
    go_ret
    exact ⟨rfl, hB'''''⟩
  rw [show szF (totMa M1) (1048576 - (totSS x0.x)) = 1048576 - (totSS x0.x) - (totMa M1) by unfold szF; rw [if_neg hn6]]
  obtain ⟨hc1x0, gc1x0⟩ := k1''''.at_ 0 (x := .int .i64 x0.c) rfl
  obtain ⟨hc1x1, gc1x1⟩ := k1''''.at_ 1 (x := .slice Aa0 x0.x.length da0) rfl
  have l1 := k1''''.lt
  obtain ⟨hc2x0, gc2x0⟩ := k2'''.at_ 0 (x := .slice Aa1 M1.mem.length da1) rfl
  obtain ⟨hc2x1, gc2x1⟩ := k2'''.at_ 1 (x := .slice Ba1 M1.ths.length ea1) rfl
  have l2 := k2'''.lt
  obtain ⟨hc3x0, gc3x0⟩ := k3''.at_ 0 (x := .int .i64 m2.t) rfl
  obtain ⟨hc3x1, gc3x1⟩ := k3''.at_ 1 (x := .bool m2.d) rfl
  have l3 := k3''.lt
  go_wp2_with fail
  clear hc1x0 gc1x0 hc1x1 gc1x1 l1 hc2x0 gc2x0 hc2x1 gc2x1 l2 hc3x0 gc3x0 hc3x1 gc3x1 l3
  obtain ⟨hc1x0, gc1x0⟩ := k1''''.at_ 0 (x := .int .i64 x0.c) rfl
  obtain ⟨hc1x1, gc1x1⟩ := k1''''.at_ 1 (x := .slice Aa0 x0.x.length da0) rfl
  have l1 := k1''''.lt
  obtain ⟨hc2x0, gc2x0⟩ := k2'''.at_ 0 (x := .slice Aa1 M1.mem.length da1) rfl
  obtain ⟨hc2x1, gc2x1⟩ := k2'''.at_ 1 (x := .slice Ba1 M1.ths.length ea1) rfl
  have l2 := k2'''.lt
  obtain ⟨hc3x0, gc3x0⟩ := k3''.at_ 0 (x := .int .i64 m2.t) rfl
  obtain ⟨hc3x1, gc3x1⟩ := k3''.at_ 1 (x := .bool m2.d) rfl
  have l3 := k3''.lt
  have HS8 : Hid (∀ W : World, Below w6.heap.size w6 W → Below w6.heap.size w6 W ∧ W.cell? ⟨w.heap.size, 0, none⟩ = some (.int .i64 x0.c) ∧ W.cell? ⟨w.heap.size, 1, none⟩ = some (.slice Aa0 x0.x.length da0) ∧ W.cell? ⟨w.heap.size + 1, 0, none⟩ = some (.slice Aa1 M1.mem.length da1) ∧ W.cell? ⟨w.heap.size + 1, 1, none⟩ = some (.slice Ba1 M1.ths.length ea1) ∧ W.cell? ⟨w.heap.size + 1 + 1, 0, none⟩ = some (.int .i64 m2.t) ∧ W.cell? ⟨w.heap.size + 1 + 1, 1, none⟩ = some (.bool m2.d)) := Lib.hid fun W hW => ⟨hW, (hW.cell (p := ⟨w.heap.size, 0, none⟩) k1''''.lt).trans hc1x0, (hW.cell (p := ⟨w.heap.size, 1, none⟩) k1''''.lt).trans hc1x1, (hW.cell (p := ⟨w.heap.size + 1, 0, none⟩) k2'''.lt).trans hc2x0, (hW.cell (p := ⟨w.heap.size + 1, 1, none⟩) k2'''.lt).trans hc2x1, (hW.cell (p := ⟨w.heap.size + 1 + 1, 0, none⟩) k3''.lt).trans hc3x0, (hW.cell (p := ⟨w.heap.size + 1 + 1, 1, none⟩) k3''.lt).trans hc3x1⟩
  have KN8 : Hid (Bk ((w6.alloc (.cells #[.slice none 0 0, .slice none 0 0] 38)).drew) w6.heap.size #[.slice none 0 0, .slice none 0 0] 38) := Lib.hid (Bk.new w6 #[.slice none 0 0, .slice none 0 0] 38)
  have HN8 : Hid (Below w6.heap.size w6 (w6.alloc (.cells #[.slice none 0 0, .slice none 0 0] 38)).drew) := Lib.hid ((Below.refl _ w6).alloc (Nat.le_refl _) _).drew
  have HB8 := Lib.hid hB'''''
  have nb8x1 : w.heap.size ≠ w6.heap.size := by have := k1''''.lt; omega
  have nb8x2 : w.heap.size + 1 ≠ w6.heap.size := by have := k2'''.lt; omega
  have nb8x3 : w.heap.size + 1 + 1 ≠ w6.heap.size := by have := k3''.lt; omega
  go_cut [8, 9] (fun p8x0 p8x1 wz => ∃ (A13 : Option Addr) (d13 : Nat) (B13 : Option Addr) (e13 : Nat) (bs13 : List Nat) (g8 : Nat), p8x0 = .pointer (some ⟨g8, 0, none⟩) ∧ p8x1 = .bool (canMv x0 M1 m2) ∧ OwnMa wz (.slice A13 (doF x0 M1 m2).mem.length d13) (.slice B13 (doF x0 M1 m2).ths.length e13) (doF x0 M1 m2) bs13 ∧ (∀ b ∈ bs13, w6.heap.size ≤ b) ∧ Bk wz g8 #[.slice A13 (doF x0 M1 m2).mem.length d13, .slice B13 (doF x0 M1 m2).ths.length e13] 38 ∧ w6.heap.size ≤ g8 ∧ Below w6.heap.size w6 wz)
  case first =>
    go_region_held3 (fun W => Below w6.heap.size w6 W ∧ W.cell? ⟨w.heap.size, 0, none⟩ = some (.int .i64 x0.c) ∧ W.cell? ⟨w.heap.size, 1, none⟩ = some (.slice Aa0 x0.x.length da0) ∧ W.cell? ⟨w.heap.size + 1, 0, none⟩ = some (.slice Aa1 M1.mem.length da1) ∧ W.cell? ⟨w.heap.size + 1, 1, none⟩ = some (.slice Ba1 M1.ths.length ea1) ∧ W.cell? ⟨w.heap.size + 1 + 1, 0, none⟩ = some (.int .i64 m2.t) ∧ W.cell? ⟨w.heap.size + 1 + 1, 1, none⟩ = some (.bool m2.d)) (first | (exact HS8.out _ (Below.refl _ _).drew) | (exact HS8.out _ HN8.out) | (exact HS8.out _ (hS8x0.alloc hS8x0.size _)) | (exact HS8.out _ (hS8x1.alloc hS8x1.size _)) | (exact HS8.out _ (hS8x2.alloc hS8x2.size _)) | (exact HS8.out _ (hS8x3.alloc hS8x3.size _)) | (exact HS8.out _ ((hS8x3.setCell (Nat.le_refl _) _).setCell (Nat.le_refl _) _)) | (exact HS8.out _ ((hS8x3.setCell hS8x0.size _).setCell hS8x0.size _)) | (exact HS8.out _ ((hS8x3.setCell hS8x1.size _).setCell hS8x1.size _)) | (exact HS8.out _ ((hS8x3.setCell hS8x2.size _).setCell hS8x2.size _)) | (exact HS8.out _ ((hS8x3.setCell hS8x3.size _).setCell hS8x3.size _)) | (exact HS8.out _ (by assumption)))
      (first
        | (go_at_call_of 10 (Value.agg #[Value.int .i64 x0.c, Value.slice Aa0 x0.x.length da0] : Value); have hS := ‹Below w6.heap.size w6 _ ∧ _›.1; refine (toProg _ x0 _ (HAaP.out.below (HB8.out.trans (hS.mono HB8.out.size))) (by omega)).mono ?_; rintro e w9 ⟨v9x0, bs9, rfl, ho9, lo9, hb9⟩; have hS8x0 := hS.trans (hb9.mono hS.size); clear hS; (first | (have q8x0 := KN8.out.below hb9 KN8.out.lt) | skip))
        | (go_at_call_of 11 (Value.agg #[Value.slice Aa1 M1.mem.length da1, Value.slice Ba1 M1.ths.length ea1] : Value); have hS := ‹Below w6.heap.size w6 _ ∧ _›.1; refine (toMachine _ _ M1 _ (HAaM.out.below (HB8.out.trans (hS.mono HB8.out.size))) (by omega)).mono ?_; rintro e w10 ⟨v10x0, v10x1, bs10, rfl, ho10, lo10, hb10⟩; have hS8x1 := hS.trans (hb10.mono hS.size); clear hS; (first | (have ho9 := ho9.below hb10) | (have ho9 := (ho9.below ((Below.refl _ w9).alloc (Nat.le_refl _) (.cells #[.slice none 0 0, .slice none 0 0] 38))).below hb10)); (first | (have q8x1 := q8x0.below hb10 q8x0.lt) | (have q8x1 := (Bk.new w9 #[.slice none 0 0, .slice none 0 0] 38).below hb10 (Bk.new w9 #[.slice none 0 0, .slice none 0 0] 38).lt) | skip))
        | (go_at_call_of 12 (Value.agg #[Value.int .i64 m2.t, .bool m2.d] : Value); have hS := ‹Below w6.heap.size w6 _ ∧ _›.1; refine (toMove m2 _).mono ?_; rintro e w11 ⟨rfl, hb11⟩; have hS8x2 := hS.trans (hb11.mono hS.size); clear hS; (first | (have ho9 := ho9.below hb11) | (have ho9 := (ho9.below ((Below.refl _ w10).alloc (Nat.le_refl _) (.cells #[.slice none 0 0, .slice none 0 0] 38))).below hb11)); (first | (have ho10 := ho10.below hb11) | (have ho10 := (ho10.below ((Below.refl _ w10).alloc (Nat.le_refl _) (.cells #[.slice none 0 0, .slice none 0 0] 38))).below hb11)); (first | (have q8x2 := q8x1.below hb11 q8x1.lt) | (have q8x2 := (Bk.new w10 #[.slice none 0 0, .slice none 0 0] 38).below hb11 (Bk.new w10 #[.slice none 0 0, .slice none 0 0] 38).lt) | skip))
        | (go_at_call 9; have hS := ‹Below w6.heap.size w6 _ ∧ _›.1; refine (spec_DoMove _ _ _ x0 M1 m2 _ ho9.rd ho10.rd (by omega)).mono ?_; rintro e w12 ⟨v13x0, v13x1, bs13, rfl, ho13, lo13, hb12⟩; have hS8x3 := hS.trans (hb12.mono hS.size); clear hS; obtain ⟨A13, d13, B13, e13, rfl, rfl⟩ := ho13.slices; (first | (have q8x3 := q8x2.below hb12 q8x2.lt) | (have q8x3 := (Bk.new w11 #[.slice none 0 0, .slice none 0 0] 38).below hb12 (Bk.new w11 #[.slice none 0 0, .slice none 0 0] 38).lt) | skip); try (obtain ⟨hq8, hg8⟩ := q8x3.at_ 0 (x := .slice none 0 0) rfl); try (obtain ⟨hq8b, hg8b⟩ := q8x3.at_ 1 (x := .slice none 0 0) rfl))
        | (go_at_call 9; have hS := ‹Below w6.heap.size w6 _ ∧ _›.1; refine (spec_DoMove _ _ _ x0 M1 m2 _ (ho9.below ((Below.refl _ w11).alloc (Nat.le_refl _) (.cells #[.slice none 0 0, .slice none 0 0] 38))).rd (ho10.below ((Below.refl _ w11).alloc (Nat.le_refl _) (.cells #[.slice none 0 0, .slice none 0 0] 38))).rd (by omega)).mono ?_; rintro e w12 ⟨v13x0, v13x1, bs13, rfl, ho13, lo13, hb12⟩; have hS8x3 := hS.trans (hb12.mono hS.size); clear hS; obtain ⟨A13, d13, B13, e13, rfl, rfl⟩ := ho13.slices; (first | (have q8x3 := q8x2.below hb12 q8x2.lt) | (have q8x3 := (Bk.new w11 #[.slice none 0 0, .slice none 0 0] 38).below hb12 (Bk.new w11 #[.slice none 0 0, .slice none 0 0] 38).lt) | skip); try (obtain ⟨hq8, hg8⟩ := q8x3.at_ 0 (x := .slice none 0 0) rfl); try (obtain ⟨hq8b, hg8b⟩ := q8x3.at_ 1 (x := .slice none 0 0) rfl)))
    all_goals go_wp2_with fail
    all_goals go_meet
    all_goals (try have s8w9 := hS8x0.size)
    all_goals (try have s8w10 := hS8x1.size)
    all_goals (try have s8w11 := hS8x2.size)
    all_goals (try have t8hb9 := hb9.size)
    all_goals (try simp at t8hb9)
    all_goals (try have t8hb10 := hb10.size)
    all_goals (try simp at t8hb10)
    all_goals (try have t8hb11 := hb11.size)
    all_goals (try simp at t8hb11)
    all_goals (try have t8hb12 := hb12.size)
    all_goals (try simp at t8hb12)
    all_goals (first | exact ⟨A13, d13, B13, e13, bs13, _, rfl, rfl, ho13.below ((Below.refl _ _).alloc (Nat.le_refl _) _), fun b hb => Nat.le_trans (by first | omega | (simp; omega) | simp) (lo13 b hb), Bk.new _ _ _, hS8x3.size, hS8x3.alloc hS8x3.size _⟩ | exact ⟨A13, d13, B13, e13, bs13, _, rfl, rfl, (ho13.far (fun k hk => by have := lo13 k hk; (try simp only [World.size_alloc] at this); omega)).far (fun k hk => by have := lo13 k hk; (try simp only [World.size_alloc] at this); omega), fun b hb => Nat.le_trans (by first | omega | (simp; omega) | simp) (lo13 b hb), by simpa using (q8x3.set_ 0 (.slice A13 (doF x0 M1 m2).mem.length d13)).set_ 1 (.slice B13 (doF x0 M1 m2).ths.length e13), by first | exact Nat.le_refl _ | omega, (hS8x3.setCell (by first | exact Nat.le_refl _ | (show w6.heap.size ≤ _; omega)) _).setCell (by first | exact Nat.le_refl _ | (show w6.heap.size ≤ _; omega)) _⟩)
  obtain ⟨A13, d13, B13, e13, bs13, g8, rfl, rfl, ho13, lo13, kg8, hgl8, hBc8⟩ := hcut
  rename World => wc8
  have hgt8 := kg8.lt
  clear HS8 KN8 HN8 HB8 nb8x1 nb8x2 nb8x3
  clear hc1x0 gc1x0 hc1x1 gc1x1 l1 hc2x0 gc2x0 hc2x1 gc2x1 l2 hc3x0 gc3x0 hc3x1 gc3x1 l3
  have sz14 := hBc8.size
  try simp only [World.size_alloc] at sz14
  have hB'''''' := hB'''''.trans (hBc8.mono hB'''''.size)
  clear hB'''''
  have k1''''' := k1''''.below hBc8 k1''''.lt
  clear k1''''
  have k2'''' := k2'''.below hBc8 k2'''.lt
  clear k2'''
  have k3''' := k3''.below hBc8 k3''.lt
  clear k3''
  have hi13 := ho13.lt
  obtain ⟨hc1x0, gc1x0⟩ := k1'''''.at_ 0 (x := .int .i64 x0.c) rfl
  obtain ⟨hc1x1, gc1x1⟩ := k1'''''.at_ 1 (x := .slice Aa0 x0.x.length da0) rfl
  have l1 := k1'''''.lt
  obtain ⟨hc2x0, gc2x0⟩ := k2''''.at_ 0 (x := .slice Aa1 M1.mem.length da1) rfl
  obtain ⟨hc2x1, gc2x1⟩ := k2''''.at_ 1 (x := .slice Ba1 M1.ths.length ea1) rfl
  have l2 := k2''''.lt
  obtain ⟨hc3x0, gc3x0⟩ := k3'''.at_ 0 (x := .int .i64 m2.t) rfl
  obtain ⟨hc3x1, gc3x1⟩ := k3'''.at_ 1 (x := .bool m2.d) rfl
  have l3 := k3'''.lt
  obtain ⟨hc8x0, gc8x0⟩ := kg8.at_ 0 (x := .slice A13 (doF x0 M1 m2).mem.length d13) rfl
  obtain ⟨hc8x1, gc8x1⟩ := kg8.at_ 1 (x := .slice B13 (doF x0 M1 m2).ths.length e13) rfl
  have l8 := kg8.lt
  go_wp2_with fail
  refine (toProg _ x0 _ (HAaP.out.below hB'''''') (by omega)).mono ?_
  rintro e w15 ⟨v15x0, bs15, rfl, ho15, lo15, hb15⟩
  clear hc1x0 gc1x0 hc1x1 gc1x1 l1 hc2x0 gc2x0 hc2x1 gc2x1 l2 hc3x0 gc3x0 hc3x1 gc3x1 l3 hc8x0 gc8x0 hc8x1 gc8x1 l8
  have sz16 := hb15.size
  try simp only [World.size_alloc] at sz16
  have hB''''''' := hB''''''.trans (hb15.mono hB''''''.size)
  clear hB''''''
  have k1'''''' := k1'''''.below hb15 k1'''''.lt
  clear k1'''''
  have k2''''' := k2''''.below hb15 k2''''.lt
  clear k2''''
  have k3'''' := k3'''.below hb15 k3'''.lt
  clear k3'''
  have kg8' := kg8.below hb15 kg8.lt
  clear kg8
  have ho13' := ho13.below hb15
  clear ho13
  have hi15 := ho15.lt
  try simp only [World.size_alloc] at lo15
  obtain ⟨A15, d15, rfl, -, -⟩ := ho15.slice
  obtain ⟨hc1x0, gc1x0⟩ := k1''''''.at_ 0 (x := .int .i64 x0.c) rfl
  obtain ⟨hc1x1, gc1x1⟩ := k1''''''.at_ 1 (x := .slice Aa0 x0.x.length da0) rfl
  have l1 := k1''''''.lt
  obtain ⟨hc2x0, gc2x0⟩ := k2'''''.at_ 0 (x := .slice Aa1 M1.mem.length da1) rfl
  obtain ⟨hc2x1, gc2x1⟩ := k2'''''.at_ 1 (x := .slice Ba1 M1.ths.length ea1) rfl
  have l2 := k2'''''.lt
  obtain ⟨hc3x0, gc3x0⟩ := k3''''.at_ 0 (x := .int .i64 m2.t) rfl
  obtain ⟨hc3x1, gc3x1⟩ := k3''''.at_ 1 (x := .bool m2.d) rfl
  have l3 := k3''''.lt
  obtain ⟨hc8x0, gc8x0⟩ := kg8'.at_ 0 (x := .slice A13 (doF x0 M1 m2).mem.length d13) rfl
  obtain ⟨hc8x1, gc8x1⟩ := kg8'.at_ 1 (x := .slice B13 (doF x0 M1 m2).ths.length e13) rfl
  have l8 := kg8'.lt
  go_wp2_with fail
  clear hc1x0 gc1x0 hc1x1 gc1x1 l1 hc2x0 gc2x0 hc2x1 gc2x1 l2 hc3x0 gc3x0 hc3x1 gc3x1 l3 hc8x0 gc8x0 hc8x1 gc8x1 l8
  have k1''''''' := k1''''''.alloc (.cells #[.int .i64 x0.c, .slice A15 x0.x.length d15] 43)
  clear k1''''''
  have k2'''''' := k2'''''.alloc (.cells #[.int .i64 x0.c, .slice A15 x0.x.length d15] 43)
  clear k2'''''
  have k3''''' := k3''''.alloc (.cells #[.int .i64 x0.c, .slice A15 x0.x.length d15] 43)
  clear k3''''
  have kg8'' := kg8'.alloc (.cells #[.int .i64 x0.c, .slice A15 x0.x.length d15] 43)
  clear kg8'
  have ho13'' := ho13'.below ((Below.refl _ _).alloc (Nat.le_refl _) (.cells #[.int .i64 x0.c, .slice A15 x0.x.length d15] 43))
  clear ho13'
  have ho15' := ho15.below ((Below.refl _ _).alloc (Nat.le_refl _) (.cells #[.int .i64 x0.c, .slice A15 x0.x.length d15] 43))
  clear ho15
  have hB'''''''' := hB'''''''.alloc hB'''''''.size (.cells #[.int .i64 x0.c, .slice A15 x0.x.length d15] 43)
  clear hB'''''''
  have k17 := Bk.new w15 #[.int .i64 x0.c, .slice A15 x0.x.length d15] 43
  refine (toMachine _ _ M1 _ (HAaM.out.below hB'''''''') (by omega)).mono ?_
  rintro e w18 ⟨v18x0, v18x1, bs18, rfl, ho18, lo18, hb18⟩
  have sz19 := hb18.size
  try simp only [World.size_alloc] at sz19
  have hB''''''''' := hB''''''''.trans (hb18.mono hB''''''''.size)
  clear hB''''''''
  have k1'''''''' := k1'''''''.below hb18 k1'''''''.lt
  clear k1'''''''
  have k2''''''' := k2''''''.below hb18 k2''''''.lt
  clear k2''''''
  have k3'''''' := k3'''''.below hb18 k3'''''.lt
  clear k3'''''
  have kg8''' := kg8''.below hb18 kg8''.lt
  clear kg8''
  have k17' := k17.below hb18 k17.lt
  clear k17
  have ho13''' := ho13''.below hb18
  clear ho13''
  have ho15'' := ho15'.below hb18
  clear ho15'
  have hi18 := ho18.lt
  try simp only [World.size_alloc] at lo18
  obtain ⟨A18, d18, B18, e18, rfl, rfl⟩ := ho18.slices
  obtain ⟨hc1x0, gc1x0⟩ := k1''''''''.at_ 0 (x := .int .i64 x0.c) rfl
  obtain ⟨hc1x1, gc1x1⟩ := k1''''''''.at_ 1 (x := .slice Aa0 x0.x.length da0) rfl
  have l1 := k1''''''''.lt
  obtain ⟨hc2x0, gc2x0⟩ := k2'''''''.at_ 0 (x := .slice Aa1 M1.mem.length da1) rfl
  obtain ⟨hc2x1, gc2x1⟩ := k2'''''''.at_ 1 (x := .slice Ba1 M1.ths.length ea1) rfl
  have l2 := k2'''''''.lt
  obtain ⟨hc3x0, gc3x0⟩ := k3''''''.at_ 0 (x := .int .i64 m2.t) rfl
  obtain ⟨hc3x1, gc3x1⟩ := k3''''''.at_ 1 (x := .bool m2.d) rfl
  have l3 := k3''''''.lt
  obtain ⟨hc8x0, gc8x0⟩ := kg8'''.at_ 0 (x := .slice A13 (doF x0 M1 m2).mem.length d13) rfl
  obtain ⟨hc8x1, gc8x1⟩ := kg8'''.at_ 1 (x := .slice B13 (doF x0 M1 m2).ths.length e13) rfl
  have l8 := kg8'''.lt
  obtain ⟨hc17x0, gc17x0⟩ := k17'.at_ 0 (x := .int .i64 x0.c) rfl
  obtain ⟨hc17x1, gc17x1⟩ := k17'.at_ 1 (x := .slice A15 x0.x.length d15) rfl
  have l17 := k17'.lt
  go_wp2_with fail
  clear hc1x0 gc1x0 hc1x1 gc1x1 l1 hc2x0 gc2x0 hc2x1 gc2x1 l2 hc3x0 gc3x0 hc3x1 gc3x1 l3 hc8x0 gc8x0 hc8x1 gc8x1 l8 hc17x0 gc17x0 hc17x1 gc17x1 l17
  have k1''''''''' := k1''''''''.alloc (.cells #[.slice A18 M1.mem.length d18, .slice B18 M1.ths.length e18] 38)
  clear k1''''''''
  have k2'''''''' := k2'''''''.alloc (.cells #[.slice A18 M1.mem.length d18, .slice B18 M1.ths.length e18] 38)
  clear k2'''''''
  have k3''''''' := k3''''''.alloc (.cells #[.slice A18 M1.mem.length d18, .slice B18 M1.ths.length e18] 38)
  clear k3''''''
  have kg8'''' := kg8'''.alloc (.cells #[.slice A18 M1.mem.length d18, .slice B18 M1.ths.length e18] 38)
  clear kg8'''
  have k17'' := k17'.alloc (.cells #[.slice A18 M1.mem.length d18, .slice B18 M1.ths.length e18] 38)
  clear k17'
  have ho13'''' := ho13'''.below ((Below.refl _ _).alloc (Nat.le_refl _) (.cells #[.slice A18 M1.mem.length d18, .slice B18 M1.ths.length e18] 38))
  clear ho13'''
  have ho15''' := ho15''.below ((Below.refl _ _).alloc (Nat.le_refl _) (.cells #[.slice A18 M1.mem.length d18, .slice B18 M1.ths.length e18] 38))
  clear ho15''
  have ho18' := ho18.below ((Below.refl _ _).alloc (Nat.le_refl _) (.cells #[.slice A18 M1.mem.length d18, .slice B18 M1.ths.length e18] 38))
  clear ho18
  have hB'''''''''' := hB'''''''''.alloc hB'''''''''.size (.cells #[.slice A18 M1.mem.length d18, .slice B18 M1.ths.length e18] 38)
  clear hB'''''''''
  have k20 := Bk.new w18 #[.slice A18 M1.mem.length d18, .slice B18 M1.ths.length e18] 38
  obtain ⟨wq21, hwq21⟩ : ∃ wq, wq = (w18.alloc (.cells #[.slice A18 M1.mem.length d18, .slice B18 M1.ths.length e18] 38)) := ⟨_, rfl⟩
  rw [← hwq21] at hB'''''''''' k1''''''''' k2'''''''' k3''''''' kg8'''' k17'' k20 ho13'''' ho15''' ho18' ⊢
  clear hwq21
  obtain ⟨hc1x0, gc1x0⟩ := k1'''''''''.at_ 0 (x := .int .i64 x0.c) rfl
  obtain ⟨hc1x1, gc1x1⟩ := k1'''''''''.at_ 1 (x := .slice Aa0 x0.x.length da0) rfl
  have l1 := k1'''''''''.lt
  obtain ⟨hc2x0, gc2x0⟩ := k2''''''''.at_ 0 (x := .slice Aa1 M1.mem.length da1) rfl
  obtain ⟨hc2x1, gc2x1⟩ := k2''''''''.at_ 1 (x := .slice Ba1 M1.ths.length ea1) rfl
  have l2 := k2''''''''.lt
  obtain ⟨hc3x0, gc3x0⟩ := k3'''''''.at_ 0 (x := .int .i64 m2.t) rfl
  obtain ⟨hc3x1, gc3x1⟩ := k3'''''''.at_ 1 (x := .bool m2.d) rfl
  have l3 := k3'''''''.lt
  obtain ⟨hc8x0, gc8x0⟩ := kg8''''.at_ 0 (x := .slice A13 (doF x0 M1 m2).mem.length d13) rfl
  obtain ⟨hc8x1, gc8x1⟩ := kg8''''.at_ 1 (x := .slice B13 (doF x0 M1 m2).ths.length e13) rfl
  have l8 := kg8''''.lt
  obtain ⟨hc17x0, gc17x0⟩ := k17''.at_ 0 (x := .int .i64 x0.c) rfl
  obtain ⟨hc17x1, gc17x1⟩ := k17''.at_ 1 (x := .slice A15 x0.x.length d15) rfl
  have l17 := k17''.lt
  obtain ⟨hc20x0, gc20x0⟩ := k20.at_ 0 (x := .slice A18 M1.mem.length d18) rfl
  obtain ⟨hc20x1, gc20x1⟩ := k20.at_ 1 (x := .slice B18 M1.ths.length e18) rfl
  have l20 := k20.lt
  have lw22x1 := k1'''''''''.lt
  have lw22x2 := k2''''''''.lt
  have lw22x3 := k3'''''''.lt
  have lw22x8 := kg8''''.lt
  have lw22x17 := k17''.lt
  have lw22x20 := k20.lt
  have HS22 : Hid (∀ W : World, Below wq21.heap.size wq21 W → Below wq21.heap.size wq21 W ∧ W.cell? ⟨w15.heap.size, 0, none⟩ = some (.int .i64 x0.c) ∧ W.cell? ⟨w15.heap.size, 1, none⟩ = some (.slice A15 x0.x.length d15) ∧ W.cell? ⟨w18.heap.size, 0, none⟩ = some (.slice A18 M1.mem.length d18) ∧ W.cell? ⟨w18.heap.size, 1, none⟩ = some (.slice B18 M1.ths.length e18) ∧ W.cell? ⟨w.heap.size + 1 + 1, 0, none⟩ = some (.int .i64 m2.t) ∧ W.cell? ⟨w.heap.size + 1 + 1, 1, none⟩ = some (.bool m2.d)) := Lib.hid fun W hW => ⟨hW, (hW.cell (p := ⟨w15.heap.size, 0, none⟩) k17''.lt).trans hc17x0, (hW.cell (p := ⟨w15.heap.size, 1, none⟩) k17''.lt).trans hc17x1, (hW.cell (p := ⟨w18.heap.size, 0, none⟩) k20.lt).trans hc20x0, (hW.cell (p := ⟨w18.heap.size, 1, none⟩) k20.lt).trans hc20x1, (hW.cell (p := ⟨w.heap.size + 1 + 1, 0, none⟩) k3'''''''.lt).trans hc3x0, (hW.cell (p := ⟨w.heap.size + 1 + 1, 1, none⟩) k3'''''''.lt).trans hc3x1⟩
  have KN22 : Hid (Bk ((wq21.alloc (.cells #[.slice none 0 0, .slice none 0 0] 38)).drew) wq21.heap.size #[.slice none 0 0, .slice none 0 0] 38) := Lib.hid (Bk.new wq21 #[.slice none 0 0, .slice none 0 0] 38)
  have HN22 : Hid (Below wq21.heap.size wq21 (wq21.alloc (.cells #[.slice none 0 0, .slice none 0 0] 38)).drew) := Lib.hid ((Below.refl _ wq21).alloc (Nat.le_refl _) _).drew
  have HB22 := Lib.hid hB''''''''''
  have nb22x17 : w15.heap.size ≠ wq21.heap.size := by have := k17''.lt; omega
  have nb22x20 : w18.heap.size ≠ wq21.heap.size := by have := k20.lt; omega
  have nb22x3 : w.heap.size + 1 + 1 ≠ wq21.heap.size := by have := k3'''''''.lt; omega
  go_cut [12, 13] (fun p22x0 p22x1 wz => ∃ (A25 : Option Addr) (d25 : Nat) (B25 : Option Addr) (e25 : Nat) (bs25 : List Nat) (g22 : Nat), p22x0 = .pointer (some ⟨g22, 0, none⟩) ∧ p22x1 = .bool (canMv x0 M1 m2) ∧ OwnMa wz (.slice A25 (doF x0 M1 m2).mem.length d25) (.slice B25 (doF x0 M1 m2).ths.length e25) (doF x0 M1 m2) bs25 ∧ (∀ b ∈ bs25, wq21.heap.size ≤ b) ∧ Bk wz g22 #[.slice A25 (doF x0 M1 m2).mem.length d25, .slice B25 (doF x0 M1 m2).ths.length e25] 38 ∧ wq21.heap.size ≤ g22 ∧ Below wq21.heap.size wq21 wz ∧ g22 ∉ bs25)
  case first =>
    go_region_held3 (fun W => Below wq21.heap.size wq21 W ∧ W.cell? ⟨w15.heap.size, 0, none⟩ = some (.int .i64 x0.c) ∧ W.cell? ⟨w15.heap.size, 1, none⟩ = some (.slice A15 x0.x.length d15) ∧ W.cell? ⟨w18.heap.size, 0, none⟩ = some (.slice A18 M1.mem.length d18) ∧ W.cell? ⟨w18.heap.size, 1, none⟩ = some (.slice B18 M1.ths.length e18) ∧ W.cell? ⟨w.heap.size + 1 + 1, 0, none⟩ = some (.int .i64 m2.t) ∧ W.cell? ⟨w.heap.size + 1 + 1, 1, none⟩ = some (.bool m2.d)) (first | (exact HS22.out _ (Below.refl _ _).drew) | (exact HS22.out _ HN22.out) | (exact HS22.out _ (hS22x0.alloc hS22x0.size _)) | (exact HS22.out _ (hS22x1.alloc hS22x1.size _)) | (exact HS22.out _ ((hS22x1.setCell (Nat.le_refl _) _).setCell (Nat.le_refl _) _)) | (exact HS22.out _ ((hS22x1.setCell hS22x0.size _).setCell hS22x0.size _)) | (exact HS22.out _ ((hS22x1.setCell hS22x1.size _).setCell hS22x1.size _)) | (exact HS22.out _ (by assumption)))
      (first
        | (go_at_call_of 12 (Value.agg #[Value.int .i64 m2.t, .bool m2.d] : Value); have hS := ‹Below wq21.heap.size wq21 _ ∧ _›.1; refine (toMove m2 _).mono ?_; rintro e w23 ⟨rfl, hb23⟩; have hS22x0 := hS.trans (hb23.mono hS.size); clear hS; (first | (have q22x0 := KN22.out.below hb23 KN22.out.lt) | skip))
        | (go_at_call 13; have hS := ‹Below wq21.heap.size wq21 _ ∧ _›.1; refine (impl_DoMove _ _ _ x0 M1 m2 _ (ho15'''.below hS).rd (ho18'.below hS).rd (by omega)).mono ?_; rintro e w24 ⟨v25x0, v25x1, bs25, rfl, ho25, lo25, hb24⟩; have hS22x1 := hS.trans (hb24.mono hS.size); clear hS; obtain ⟨A25, d25, B25, e25, rfl, rfl⟩ := ho25.slices; (first | (have q22x1 := q22x0.below hb24 q22x0.lt) | (have q22x1 := (Bk.new w23 #[.slice none 0 0, .slice none 0 0] 38).below hb24 (Bk.new w23 #[.slice none 0 0, .slice none 0 0] 38).lt) | skip); try (obtain ⟨hq22, hg22⟩ := q22x1.at_ 0 (x := .slice none 0 0) rfl); try (obtain ⟨hq22b, hg22b⟩ := q22x1.at_ 1 (x := .slice none 0 0) rfl)))
    all_goals go_wp2_with fail
    all_goals go_meet
    all_goals (try have s22w23 := hS22x0.size)
    all_goals (try have t22hb23 := hb23.size)
    all_goals (try simp at t22hb23)
    all_goals (try have t22hb24 := hb24.size)
    all_goals (try simp at t22hb24)
    all_goals (first | exact ⟨A25, d25, B25, e25, bs25, _, rfl, rfl, ho25.below ((Below.refl _ _).alloc (Nat.le_refl _) _), fun b hb => Nat.le_trans (by first | omega | (simp; omega) | simp) (lo25 b hb), Bk.new _ _ _, hS22x1.size, hS22x1.alloc hS22x1.size _, fun hm => by have := ho25.lt _ hm; first | omega | (simp at this; omega)⟩ | exact ⟨A25, d25, B25, e25, bs25, _, rfl, rfl, (ho25.far (fun k hk => by have := lo25 k hk; (try simp only [World.size_alloc] at this); omega)).far (fun k hk => by have := lo25 k hk; (try simp only [World.size_alloc] at this); omega), fun b hb => Nat.le_trans (by first | omega | (simp; omega) | simp) (lo25 b hb), by simpa using (q22x1.set_ 0 (.slice A25 (doF x0 M1 m2).mem.length d25)).set_ 1 (.slice B25 (doF x0 M1 m2).ths.length e25), by first | exact Nat.le_refl _ | omega, (hS22x1.setCell (by first | exact Nat.le_refl _ | (show wq21.heap.size ≤ _; omega)) _).setCell (by first | exact Nat.le_refl _ | (show wq21.heap.size ≤ _; omega)) _, fun hm => by have := lo25 _ hm; (try simp only [World.size_alloc] at this); omega⟩)
  obtain ⟨A25, d25, B25, e25, bs25, g22, rfl, rfl, ho25, lo25, kg22, hgl22, hBc22, ng22⟩ := hcut
  rename World => wc22
  have hgt22 := kg22.lt
  clear HS22 KN22 HN22 HB22 nb22x17 nb22x20 nb22x3
  clear hc1x0 gc1x0 hc1x1 gc1x1 l1 hc2x0 gc2x0 hc2x1 gc2x1 l2 hc3x0 gc3x0 hc3x1 gc3x1 l3 hc8x0 gc8x0 hc8x1 gc8x1 l8 hc17x0 gc17x0 hc17x1 gc17x1 l17 hc20x0 gc20x0 hc20x1 gc20x1 l20
  have sz26 := hBc22.size
  try simp only [World.size_alloc] at sz26
  have hB''''''''''' := hB''''''''''.trans (hBc22.mono hB''''''''''.size)
  clear hB''''''''''
  have k1'''''''''' := k1'''''''''.below hBc22 k1'''''''''.lt
  clear k1'''''''''
  have k2''''''''' := k2''''''''.below hBc22 k2''''''''.lt
  clear k2''''''''
  have k3'''''''' := k3'''''''.below hBc22 k3'''''''.lt
  clear k3'''''''
  have kg8''''' := kg8''''.below hBc22 kg8''''.lt
  clear kg8''''
  have k17''' := k17''.below hBc22 k17''.lt
  clear k17''
  have k20' := k20.below hBc22 k20.lt
  clear k20
  have ho13''''' := ho13''''.below hBc22
  clear ho13''''
  have ho15'''' := ho15'''.below hBc22
  clear ho15'''
  have ho18'' := ho18'.below hBc22
  clear ho18'
  have hi25 := ho25.lt
  obtain ⟨hc1x0, gc1x0⟩ := k1''''''''''.at_ 0 (x := .int .i64 x0.c) rfl
  obtain ⟨hc1x1, gc1x1⟩ := k1''''''''''.at_ 1 (x := .slice Aa0 x0.x.length da0) rfl
  have l1 := k1''''''''''.lt
  obtain ⟨hc2x0, gc2x0⟩ := k2'''''''''.at_ 0 (x := .slice Aa1 M1.mem.length da1) rfl
  obtain ⟨hc2x1, gc2x1⟩ := k2'''''''''.at_ 1 (x := .slice Ba1 M1.ths.length ea1) rfl
  have l2 := k2'''''''''.lt
  obtain ⟨hc3x0, gc3x0⟩ := k3''''''''.at_ 0 (x := .int .i64 m2.t) rfl
  obtain ⟨hc3x1, gc3x1⟩ := k3''''''''.at_ 1 (x := .bool m2.d) rfl
  have l3 := k3''''''''.lt
  obtain ⟨hc8x0, gc8x0⟩ := kg8'''''.at_ 0 (x := .slice A13 (doF x0 M1 m2).mem.length d13) rfl
  obtain ⟨hc8x1, gc8x1⟩ := kg8'''''.at_ 1 (x := .slice B13 (doF x0 M1 m2).ths.length e13) rfl
  have l8 := kg8'''''.lt
  obtain ⟨hc17x0, gc17x0⟩ := k17'''.at_ 0 (x := .int .i64 x0.c) rfl
  obtain ⟨hc17x1, gc17x1⟩ := k17'''.at_ 1 (x := .slice A15 x0.x.length d15) rfl
  have l17 := k17'''.lt
  obtain ⟨hc20x0, gc20x0⟩ := k20'.at_ 0 (x := .slice A18 M1.mem.length d18) rfl
  obtain ⟨hc20x1, gc20x1⟩ := k20'.at_ 1 (x := .slice B18 M1.ths.length e18) rfl
  have l20 := k20'.lt
  obtain ⟨hc22x0, gc22x0⟩ := kg22.at_ 0 (x := .slice A25 (doF x0 M1 m2).mem.length d25) rfl
  obtain ⟨hc22x1, gc22x1⟩ := kg22.at_ 1 (x := .slice B25 (doF x0 M1 m2).ths.length e25) rfl
  have l22 := kg22.lt
  go_wp2_with fail
  refine (eqMachine _ _ _ _ ((doF x0 M1 m2)) ((doF x0 M1 m2)) _ ho25.rd ho13'''''.rd).mono ?_
  rintro e w27 ⟨rfl, hb27⟩
  rw [decide_eq_true rfl]
  clear hc1x0 gc1x0 hc1x1 gc1x1 l1 hc2x0 gc2x0 hc2x1 gc2x1 l2 hc3x0 gc3x0 hc3x1 gc3x1 l3 hc8x0 gc8x0 hc8x1 gc8x1 l8 hc17x0 gc17x0 hc17x1 gc17x1 l17 hc20x0 gc20x0 hc20x1 gc20x1 l20 hc22x0 gc22x0 hc22x1 gc22x1 l22
  have sz28 := hb27.size
  try simp only [World.size_alloc] at sz28
  have hB'''''''''''' := hB'''''''''''.trans (hb27.mono hB'''''''''''.size)
  clear hB'''''''''''
  have k1''''''''''' := k1''''''''''.below hb27 k1''''''''''.lt
  clear k1''''''''''
  have k2'''''''''' := k2'''''''''.below hb27 k2'''''''''.lt
  clear k2'''''''''
  have k3''''''''' := k3''''''''.below hb27 k3''''''''.lt
  clear k3''''''''
  have kg8'''''' := kg8'''''.below hb27 kg8'''''.lt
  clear kg8'''''
  have k17'''' := k17'''.below hb27 k17'''.lt
  clear k17'''
  have k20'' := k20'.below hb27 k20'.lt
  clear k20'
  have kg22' := kg22.below hb27 kg22.lt
  clear kg22
  have ho13'''''' := ho13'''''.below hb27
  clear ho13'''''
  have ho15''''' := ho15''''.below hb27
  clear ho15''''
  have ho18''' := ho18''.below hb27
  clear ho18''
  have ho25' := ho25.below hb27
  clear ho25
  obtain ⟨hc1x0, gc1x0⟩ := k1'''''''''''.at_ 0 (x := .int .i64 x0.c) rfl
  obtain ⟨hc1x1, gc1x1⟩ := k1'''''''''''.at_ 1 (x := .slice Aa0 x0.x.length da0) rfl
  have l1 := k1'''''''''''.lt
  obtain ⟨hc2x0, gc2x0⟩ := k2''''''''''.at_ 0 (x := .slice Aa1 M1.mem.length da1) rfl
  obtain ⟨hc2x1, gc2x1⟩ := k2''''''''''.at_ 1 (x := .slice Ba1 M1.ths.length ea1) rfl
  have l2 := k2''''''''''.lt
  obtain ⟨hc3x0, gc3x0⟩ := k3'''''''''.at_ 0 (x := .int .i64 m2.t) rfl
  obtain ⟨hc3x1, gc3x1⟩ := k3'''''''''.at_ 1 (x := .bool m2.d) rfl
  have l3 := k3'''''''''.lt
  obtain ⟨hc8x0, gc8x0⟩ := kg8''''''.at_ 0 (x := .slice A13 (doF x0 M1 m2).mem.length d13) rfl
  obtain ⟨hc8x1, gc8x1⟩ := kg8''''''.at_ 1 (x := .slice B13 (doF x0 M1 m2).ths.length e13) rfl
  have l8 := kg8''''''.lt
  obtain ⟨hc17x0, gc17x0⟩ := k17''''.at_ 0 (x := .int .i64 x0.c) rfl
  obtain ⟨hc17x1, gc17x1⟩ := k17''''.at_ 1 (x := .slice A15 x0.x.length d15) rfl
  have l17 := k17''''.lt
  obtain ⟨hc20x0, gc20x0⟩ := k20''.at_ 0 (x := .slice A18 M1.mem.length d18) rfl
  obtain ⟨hc20x1, gc20x1⟩ := k20''.at_ 1 (x := .slice B18 M1.ths.length e18) rfl
  have l20 := k20''.lt
  obtain ⟨hc22x0, gc22x0⟩ := kg22'.at_ 0 (x := .slice A25 (doF x0 M1 m2).mem.length d25) rfl
  obtain ⟨hc22x1, gc22x1⟩ := kg22'.at_ 1 (x := .slice B25 (doF x0 M1 m2).ths.length e25) rfl
  have l22 := kg22'.lt
  go_wp2_with fail
  clear hc1x0 gc1x0 hc1x1 gc1x1 l1 hc2x0 gc2x0 hc2x1 gc2x1 l2 hc3x0 gc3x0 hc3x1 gc3x1 l3 hc8x0 gc8x0 hc8x1 gc8x1 l8 hc17x0 gc17x0 hc17x1 gc17x1 l17 hc20x0 gc20x0 hc20x1 gc20x1 l20 hc22x0 gc22x0 hc22x1 gc22x1 l22
  obtain ⟨hc1x0, gc1x0⟩ := k1'''''''''''.at_ 0 (x := .int .i64 x0.c) rfl
  obtain ⟨hc1x1, gc1x1⟩ := k1'''''''''''.at_ 1 (x := .slice Aa0 x0.x.length da0) rfl
  have l1 := k1'''''''''''.lt
  obtain ⟨hc2x0, gc2x0⟩ := k2''''''''''.at_ 0 (x := .slice Aa1 M1.mem.length da1) rfl
  obtain ⟨hc2x1, gc2x1⟩ := k2''''''''''.at_ 1 (x := .slice Ba1 M1.ths.length ea1) rfl
  have l2 := k2''''''''''.lt
  obtain ⟨hc3x0, gc3x0⟩ := k3'''''''''.at_ 0 (x := .int .i64 m2.t) rfl
  obtain ⟨hc3x1, gc3x1⟩ := k3'''''''''.at_ 1 (x := .bool m2.d) rfl
  have l3 := k3'''''''''.lt
  obtain ⟨hc8x0, gc8x0⟩ := kg8''''''.at_ 0 (x := .slice A13 (doF x0 M1 m2).mem.length d13) rfl
  obtain ⟨hc8x1, gc8x1⟩ := kg8''''''.at_ 1 (x := .slice B13 (doF x0 M1 m2).ths.length e13) rfl
  have l8 := kg8''''''.lt
  obtain ⟨hc17x0, gc17x0⟩ := k17''''.at_ 0 (x := .int .i64 x0.c) rfl
  obtain ⟨hc17x1, gc17x1⟩ := k17''''.at_ 1 (x := .slice A15 x0.x.length d15) rfl
  have l17 := k17''''.lt
  obtain ⟨hc20x0, gc20x0⟩ := k20''.at_ 0 (x := .slice A18 M1.mem.length d18) rfl
  obtain ⟨hc20x1, gc20x1⟩ := k20''.at_ 1 (x := .slice B18 M1.ths.length e18) rfl
  have l20 := k20''.lt
  obtain ⟨hc22x0, gc22x0⟩ := kg22'.at_ 0 (x := .slice A25 (doF x0 M1 m2).mem.length d25) rfl
  obtain ⟨hc22x1, gc22x1⟩ := kg22'.at_ 1 (x := .slice B25 (doF x0 M1 m2).ths.length e25) rfl
  have l22 := kg22'.lt
  have HS30 : Hid (∀ W : World, Below w27.heap.size w27 W → Below w27.heap.size w27 W ∧ W.cell? ⟨w15.heap.size, 0, none⟩ = some (.int .i64 x0.c) ∧ W.cell? ⟨w15.heap.size, 1, none⟩ = some (.slice A15 x0.x.length d15) ∧ W.cell? ⟨w.heap.size, 0, none⟩ = some (.int .i64 x0.c) ∧ W.cell? ⟨w.heap.size, 1, none⟩ = some (.slice Aa0 x0.x.length da0)) := Lib.hid fun W hW => ⟨hW, (hW.cell (p := ⟨w15.heap.size, 0, none⟩) k17''''.lt).trans hc17x0, (hW.cell (p := ⟨w15.heap.size, 1, none⟩) k17''''.lt).trans hc17x1, (hW.cell (p := ⟨w.heap.size, 0, none⟩) k1'''''''''''.lt).trans hc1x0, (hW.cell (p := ⟨w.heap.size, 1, none⟩) k1'''''''''''.lt).trans hc1x1⟩
  have HhB____________ := Lib.hid hB''''''''''''
  have Hho13______ := Lib.hid ho13''''''
  have Hho15_____ := Lib.hid ho15'''''
  have Hho18___ := Lib.hid ho18'''
  have Hho25_ := Lib.hid ho25'
  go_region_held3 (fun W => Below w27.heap.size w27 W ∧ W.cell? ⟨w15.heap.size, 0, none⟩ = some (.int .i64 x0.c) ∧ W.cell? ⟨w15.heap.size, 1, none⟩ = some (.slice A15 x0.x.length d15) ∧ W.cell? ⟨w.heap.size, 0, none⟩ = some (.int .i64 x0.c) ∧ W.cell? ⟨w.heap.size, 1, none⟩ = some (.slice Aa0 x0.x.length da0)) (first | (exact HS30.out _ (Below.refl _ _).drew) | (exact HS30.out _ (by assumption)))
    (first
      | (go_at_call 10; have hS := ‹Below w27.heap.size w27 _ ∧ _›.1; refine (toProg _ x0 _ (HAaP.out.below (HhB____________.out.trans (hS.mono HhB____________.out.size))) (by omega)).mono ?_; rintro e wa29 ⟨vv0, bsw, rfl, how, low, hbw29⟩; have HO29 := Lib.hid how; clear how low; have hS30x0 := hS.trans (hbw29.mono hS.size); clear hS)
      | (go_at_call 15; have hS := ‹Below w27.heap.size w27 _ ∧ _›.1; refine (eqProg _ _ (x0) (x0) _ (Hho15_____.out.below hS).rd HO29.out.rd).mono ?_; rintro e w29 ⟨rfl, hbe29⟩; have hS30x1 := hS.trans (hbe29.mono hS.size); clear hS))
  have hS30 := ‹Below w27.heap.size w27 _ ∧ _›.1
  clear HS30 HhB____________ Hho13______ Hho15_____ Hho18___ Hho25_
  clear hc1x0 gc1x0 hc1x1 gc1x1 l1 hc2x0 gc2x0 hc2x1 gc2x1 l2 hc3x0 gc3x0 hc3x1 gc3x1 l3 hc8x0 gc8x0 hc8x1 gc8x1 l8 hc17x0 gc17x0 hc17x1 gc17x1 l17 hc20x0 gc20x0 hc20x1 gc20x1 l20 hc22x0 gc22x0 hc22x1 gc22x1 l22
  have sz31 := hS30.size
  try simp only [World.size_alloc] at sz31
  have hB''''''''''''' := hB''''''''''''.trans (hS30.mono hB''''''''''''.size)
  clear hB''''''''''''
  have k1'''''''''''' := k1'''''''''''.below hS30 k1'''''''''''.lt
  clear k1'''''''''''
  have k2''''''''''' := k2''''''''''.below hS30 k2''''''''''.lt
  clear k2''''''''''
  have k3'''''''''' := k3'''''''''.below hS30 k3'''''''''.lt
  clear k3'''''''''
  have kg8''''''' := kg8''''''.below hS30 kg8''''''.lt
  clear kg8''''''
  have k17''''' := k17''''.below hS30 k17''''.lt
  clear k17''''
  have k20''' := k20''.below hS30 k20''.lt
  clear k20''
  have kg22'' := kg22'.below hS30 kg22'.lt
  clear kg22'
  have ho13''''''' := ho13''''''.below hS30
  clear ho13''''''
  have ho15'''''' := ho15'''''.below hS30
  clear ho15'''''
  have ho18'''' := ho18'''.below hS30
  clear ho18'''
  have ho25'' := ho25'.below hS30
  clear ho25'
  clear hS30
  clear HO29
  obtain ⟨hc1x0, gc1x0⟩ := k1''''''''''''.at_ 0 (x := .int .i64 x0.c) rfl
  obtain ⟨hc1x1, gc1x1⟩ := k1''''''''''''.at_ 1 (x := .slice Aa0 x0.x.length da0) rfl
  have l1 := k1''''''''''''.lt
  obtain ⟨hc2x0, gc2x0⟩ := k2'''''''''''.at_ 0 (x := .slice Aa1 M1.mem.length da1) rfl
  obtain ⟨hc2x1, gc2x1⟩ := k2'''''''''''.at_ 1 (x := .slice Ba1 M1.ths.length ea1) rfl
  have l2 := k2'''''''''''.lt
  obtain ⟨hc3x0, gc3x0⟩ := k3''''''''''.at_ 0 (x := .int .i64 m2.t) rfl
  obtain ⟨hc3x1, gc3x1⟩ := k3''''''''''.at_ 1 (x := .bool m2.d) rfl
  have l3 := k3''''''''''.lt
  obtain ⟨hc8x0, gc8x0⟩ := kg8'''''''.at_ 0 (x := .slice A13 (doF x0 M1 m2).mem.length d13) rfl
  obtain ⟨hc8x1, gc8x1⟩ := kg8'''''''.at_ 1 (x := .slice B13 (doF x0 M1 m2).ths.length e13) rfl
  have l8 := kg8'''''''.lt
  obtain ⟨hc17x0, gc17x0⟩ := k17'''''.at_ 0 (x := .int .i64 x0.c) rfl
  obtain ⟨hc17x1, gc17x1⟩ := k17'''''.at_ 1 (x := .slice A15 x0.x.length d15) rfl
  have l17 := k17'''''.lt
  obtain ⟨hc20x0, gc20x0⟩ := k20'''.at_ 0 (x := .slice A18 M1.mem.length d18) rfl
  obtain ⟨hc20x1, gc20x1⟩ := k20'''.at_ 1 (x := .slice B18 M1.ths.length e18) rfl
  have l20 := k20'''.lt
  obtain ⟨hc22x0, gc22x0⟩ := kg22''.at_ 0 (x := .slice A25 (doF x0 M1 m2).mem.length d25) rfl
  obtain ⟨hc22x1, gc22x1⟩ := kg22''.at_ 1 (x := .slice B25 (doF x0 M1 m2).ths.length e25) rfl
  have l22 := kg22''.lt
  go_wp2_with fail
  clear hc1x0 gc1x0 hc1x1 gc1x1 l1 hc2x0 gc2x0 hc2x1 gc2x1 l2 hc3x0 gc3x0 hc3x1 gc3x1 l3 hc8x0 gc8x0 hc8x1 gc8x1 l8 hc17x0 gc17x0 hc17x1 gc17x1 l17 hc20x0 gc20x0 hc20x1 gc20x1 l20 hc22x0 gc22x0 hc22x1 gc22x1 l22
  obtain ⟨hc1x0, gc1x0⟩ := k1''''''''''''.at_ 0 (x := .int .i64 x0.c) rfl
  obtain ⟨hc1x1, gc1x1⟩ := k1''''''''''''.at_ 1 (x := .slice Aa0 x0.x.length da0) rfl
  have l1 := k1''''''''''''.lt
  obtain ⟨hc2x0, gc2x0⟩ := k2'''''''''''.at_ 0 (x := .slice Aa1 M1.mem.length da1) rfl
  obtain ⟨hc2x1, gc2x1⟩ := k2'''''''''''.at_ 1 (x := .slice Ba1 M1.ths.length ea1) rfl
  have l2 := k2'''''''''''.lt
  obtain ⟨hc3x0, gc3x0⟩ := k3''''''''''.at_ 0 (x := .int .i64 m2.t) rfl
  obtain ⟨hc3x1, gc3x1⟩ := k3''''''''''.at_ 1 (x := .bool m2.d) rfl
  have l3 := k3''''''''''.lt
  obtain ⟨hc8x0, gc8x0⟩ := kg8'''''''.at_ 0 (x := .slice A13 (doF x0 M1 m2).mem.length d13) rfl
  obtain ⟨hc8x1, gc8x1⟩ := kg8'''''''.at_ 1 (x := .slice B13 (doF x0 M1 m2).ths.length e13) rfl
  have l8 := kg8'''''''.lt
  obtain ⟨hc17x0, gc17x0⟩ := k17'''''.at_ 0 (x := .int .i64 x0.c) rfl
  obtain ⟨hc17x1, gc17x1⟩ := k17'''''.at_ 1 (x := .slice A15 x0.x.length d15) rfl
  have l17 := k17'''''.lt
  obtain ⟨hc20x0, gc20x0⟩ := k20'''.at_ 0 (x := .slice A18 M1.mem.length d18) rfl
  obtain ⟨hc20x1, gc20x1⟩ := k20'''.at_ 1 (x := .slice B18 M1.ths.length e18) rfl
  have l20 := k20'''.lt
  obtain ⟨hc22x0, gc22x0⟩ := kg22''.at_ 0 (x := .slice A25 (doF x0 M1 m2).mem.length d25) rfl
  obtain ⟨hc22x1, gc22x1⟩ := kg22''.at_ 1 (x := .slice B25 (doF x0 M1 m2).ths.length e25) rfl
  have l22 := kg22''.lt
  have HS33 : Hid (∀ W : World, Below w29.heap.size w29 W → Below w29.heap.size w29 W ∧ W.cell? ⟨w18.heap.size, 0, none⟩ = some (.slice A18 M1.mem.length d18) ∧ W.cell? ⟨w18.heap.size, 1, none⟩ = some (.slice B18 M1.ths.length e18) ∧ W.cell? ⟨w.heap.size + 1, 0, none⟩ = some (.slice Aa1 M1.mem.length da1) ∧ W.cell? ⟨w.heap.size + 1, 1, none⟩ = some (.slice Ba1 M1.ths.length ea1)) := Lib.hid fun W hW => ⟨hW, (hW.cell (p := ⟨w18.heap.size, 0, none⟩) k20'''.lt).trans hc20x0, (hW.cell (p := ⟨w18.heap.size, 1, none⟩) k20'''.lt).trans hc20x1, (hW.cell (p := ⟨w.heap.size + 1, 0, none⟩) k2'''''''''''.lt).trans hc2x0, (hW.cell (p := ⟨w.heap.size + 1, 1, none⟩) k2'''''''''''.lt).trans hc2x1⟩
  have HhB_____________ := Lib.hid hB'''''''''''''
  have Hho13_______ := Lib.hid ho13'''''''
  have Hho15______ := Lib.hid ho15''''''
  have Hho18____ := Lib.hid ho18''''
  have Hho25__ := Lib.hid ho25''
  go_region_held3 (fun W => Below w29.heap.size w29 W ∧ W.cell? ⟨w18.heap.size, 0, none⟩ = some (.slice A18 M1.mem.length d18) ∧ W.cell? ⟨w18.heap.size, 1, none⟩ = some (.slice B18 M1.ths.length e18) ∧ W.cell? ⟨w.heap.size + 1, 0, none⟩ = some (.slice Aa1 M1.mem.length da1) ∧ W.cell? ⟨w.heap.size + 1, 1, none⟩ = some (.slice Ba1 M1.ths.length ea1)) (first | (exact HS33.out _ (Below.refl _ _).drew) | (exact HS33.out _ (by assumption)))
    (first
      | (go_at_call 11; have hS := ‹Below w29.heap.size w29 _ ∧ _›.1; refine (toMachine _ _ M1 _ (HAaM.out.below (HhB_____________.out.trans (hS.mono HhB_____________.out.size))) (by omega)).mono ?_; rintro e wa32 ⟨vv0, vv1, bsw, rfl, how, low, hbw32⟩; have HO32 := Lib.hid how; clear how low; have hS33x0 := hS.trans (hbw32.mono hS.size); clear hS)
      | (go_at_call 14; have hS := ‹Below w29.heap.size w29 _ ∧ _›.1; refine (eqMachine _ _ _ _ (M1) (M1) _ (Hho18____.out.below hS).rd HO32.out.rd).mono ?_; rintro e w32 ⟨rfl, hbe32⟩; have hS33x1 := hS.trans (hbe32.mono hS.size); clear hS))
  have hS33 := ‹Below w29.heap.size w29 _ ∧ _›.1
  clear HS33 HhB_____________ Hho13_______ Hho15______ Hho18____ Hho25__
  clear hc1x0 gc1x0 hc1x1 gc1x1 l1 hc2x0 gc2x0 hc2x1 gc2x1 l2 hc3x0 gc3x0 hc3x1 gc3x1 l3 hc8x0 gc8x0 hc8x1 gc8x1 l8 hc17x0 gc17x0 hc17x1 gc17x1 l17 hc20x0 gc20x0 hc20x1 gc20x1 l20 hc22x0 gc22x0 hc22x1 gc22x1 l22
  have sz34 := hS33.size
  try simp only [World.size_alloc] at sz34
  have hB'''''''''''''' := hB'''''''''''''.trans (hS33.mono hB'''''''''''''.size)
  clear hB'''''''''''''
  have k1''''''''''''' := k1''''''''''''.below hS33 k1''''''''''''.lt
  clear k1''''''''''''
  have k2'''''''''''' := k2'''''''''''.below hS33 k2'''''''''''.lt
  clear k2'''''''''''
  have k3''''''''''' := k3''''''''''.below hS33 k3''''''''''.lt
  clear k3''''''''''
  have kg8'''''''' := kg8'''''''.below hS33 kg8'''''''.lt
  clear kg8'''''''
  have k17'''''' := k17'''''.below hS33 k17'''''.lt
  clear k17'''''
  have k20'''' := k20'''.below hS33 k20'''.lt
  clear k20'''
  have kg22''' := kg22''.below hS33 kg22''.lt
  clear kg22''
  have ho13'''''''' := ho13'''''''.below hS33
  clear ho13'''''''
  have ho15''''''' := ho15''''''.below hS33
  clear ho15''''''
  have ho18''''' := ho18''''.below hS33
  clear ho18''''
  have ho25''' := ho25''.below hS33
  clear ho25''
  clear hS33
  clear HO32
  obtain ⟨hc1x0, gc1x0⟩ := k1'''''''''''''.at_ 0 (x := .int .i64 x0.c) rfl
  obtain ⟨hc1x1, gc1x1⟩ := k1'''''''''''''.at_ 1 (x := .slice Aa0 x0.x.length da0) rfl
  have l1 := k1'''''''''''''.lt
  obtain ⟨hc2x0, gc2x0⟩ := k2''''''''''''.at_ 0 (x := .slice Aa1 M1.mem.length da1) rfl
  obtain ⟨hc2x1, gc2x1⟩ := k2''''''''''''.at_ 1 (x := .slice Ba1 M1.ths.length ea1) rfl
  have l2 := k2''''''''''''.lt
  obtain ⟨hc3x0, gc3x0⟩ := k3'''''''''''.at_ 0 (x := .int .i64 m2.t) rfl
  obtain ⟨hc3x1, gc3x1⟩ := k3'''''''''''.at_ 1 (x := .bool m2.d) rfl
  have l3 := k3'''''''''''.lt
  obtain ⟨hc8x0, gc8x0⟩ := kg8''''''''.at_ 0 (x := .slice A13 (doF x0 M1 m2).mem.length d13) rfl
  obtain ⟨hc8x1, gc8x1⟩ := kg8''''''''.at_ 1 (x := .slice B13 (doF x0 M1 m2).ths.length e13) rfl
  have l8 := kg8''''''''.lt
  obtain ⟨hc17x0, gc17x0⟩ := k17''''''.at_ 0 (x := .int .i64 x0.c) rfl
  obtain ⟨hc17x1, gc17x1⟩ := k17''''''.at_ 1 (x := .slice A15 x0.x.length d15) rfl
  have l17 := k17''''''.lt
  obtain ⟨hc20x0, gc20x0⟩ := k20''''.at_ 0 (x := .slice A18 M1.mem.length d18) rfl
  obtain ⟨hc20x1, gc20x1⟩ := k20''''.at_ 1 (x := .slice B18 M1.ths.length e18) rfl
  have l20 := k20''''.lt
  obtain ⟨hc22x0, gc22x0⟩ := kg22'''.at_ 0 (x := .slice A25 (doF x0 M1 m2).mem.length d25) rfl
  obtain ⟨hc22x1, gc22x1⟩ := kg22'''.at_ 1 (x := .slice B25 (doF x0 M1 m2).ths.length e25) rfl
  have l22 := kg22'''.lt
  go_wp2_with fail
  refine (markProg _ x0 bs15 (1) _ ho15''''''' (by omega) (by omega) (by omega)).mono ?_
  rintro e w35 ⟨rfl, hq35, hon35⟩
  clear hc1x0 gc1x0 hc1x1 gc1x1 l1 hc2x0 gc2x0 hc2x1 gc2x1 l2 hc3x0 gc3x0 hc3x1 gc3x1 l3 hc8x0 gc8x0 hc8x1 gc8x1 l8 hc17x0 gc17x0 hc17x1 gc17x1 l17 hc20x0 gc20x0 hc20x1 gc20x1 l20 hc22x0 gc22x0 hc22x1 gc22x1 l22
  have sz36 := hon35.size
  try simp only [World.size_alloc] at sz36
  have hB''''''''''''''' := hB''''''''''''''.trans (hon35.below hB''''''''''''''.size (fun b hb => by have := lo15 b hb; omega))
  clear hB''''''''''''''
  have k1'''''''''''''' := k1'''''''''''''.only hon35 (fun hm => by have := lo15 _ hm; have := hi15 _ hm; omega)
  clear k1'''''''''''''
  have k2''''''''''''' := k2''''''''''''.only hon35 (fun hm => by have := lo15 _ hm; have := hi15 _ hm; omega)
  clear k2''''''''''''
  have k3'''''''''''' := k3'''''''''''.only hon35 (fun hm => by have := lo15 _ hm; have := hi15 _ hm; omega)
  clear k3'''''''''''
  have kg8''''''''' := kg8''''''''.only hon35 (fun hm => by have := lo15 _ hm; have := hi15 _ hm; omega)
  clear kg8''''''''
  have k17''''''' := k17''''''.only hon35 (fun hm => by have := lo15 _ hm; have := hi15 _ hm; omega)
  clear k17''''''
  have k20''''' := k20''''.only hon35 (fun hm => by have := lo15 _ hm; have := hi15 _ hm; omega)
  clear k20''''
  have kg22'''' := kg22'''.only hon35 (fun hm => by have := lo15 _ hm; have := hi15 _ hm; omega)
  clear kg22'''
  have ho13''''''''' := ho13''''''''.only hon35 (fun b hb hm => by have := lo15 b hm; have := hi15 b hm; have := lo13 b hb; have := hi13 b hb; omega)
  clear ho13''''''''
  have ho18'''''' := ho18'''''.only hon35 (fun b hb hm => by have := lo15 b hm; have := hi15 b hm; have := lo18 b hb; have := hi18 b hb; omega)
  clear ho18'''''
  have ho25'''' := ho25'''.only hon35 (fun b hb hm => by have := lo15 b hm; have := hi15 b hm; have := lo25 b hb; have := hi25 b hb; omega)
  clear ho25'''
  obtain ⟨hc1x0, gc1x0⟩ := k1''''''''''''''.at_ 0 (x := .int .i64 x0.c) rfl
  obtain ⟨hc1x1, gc1x1⟩ := k1''''''''''''''.at_ 1 (x := .slice Aa0 x0.x.length da0) rfl
  have l1 := k1''''''''''''''.lt
  obtain ⟨hc2x0, gc2x0⟩ := k2'''''''''''''.at_ 0 (x := .slice Aa1 M1.mem.length da1) rfl
  obtain ⟨hc2x1, gc2x1⟩ := k2'''''''''''''.at_ 1 (x := .slice Ba1 M1.ths.length ea1) rfl
  have l2 := k2'''''''''''''.lt
  obtain ⟨hc3x0, gc3x0⟩ := k3''''''''''''.at_ 0 (x := .int .i64 m2.t) rfl
  obtain ⟨hc3x1, gc3x1⟩ := k3''''''''''''.at_ 1 (x := .bool m2.d) rfl
  have l3 := k3''''''''''''.lt
  obtain ⟨hc8x0, gc8x0⟩ := kg8'''''''''.at_ 0 (x := .slice A13 (doF x0 M1 m2).mem.length d13) rfl
  obtain ⟨hc8x1, gc8x1⟩ := kg8'''''''''.at_ 1 (x := .slice B13 (doF x0 M1 m2).ths.length e13) rfl
  have l8 := kg8'''''''''.lt
  obtain ⟨hc17x0, gc17x0⟩ := k17'''''''.at_ 0 (x := .int .i64 x0.c) rfl
  obtain ⟨hc17x1, gc17x1⟩ := k17'''''''.at_ 1 (x := .slice A15 x0.x.length d15) rfl
  have l17 := k17'''''''.lt
  obtain ⟨hc20x0, gc20x0⟩ := k20'''''.at_ 0 (x := .slice A18 M1.mem.length d18) rfl
  obtain ⟨hc20x1, gc20x1⟩ := k20'''''.at_ 1 (x := .slice B18 M1.ths.length e18) rfl
  have l20 := k20'''''.lt
  obtain ⟨hc22x0, gc22x0⟩ := kg22''''.at_ 0 (x := .slice A25 (doF x0 M1 m2).mem.length d25) rfl
  obtain ⟨hc22x1, gc22x1⟩ := kg22''''.at_ 1 (x := .slice B25 (doF x0 M1 m2).ths.length e25) rfl
  have l22 := kg22''''.lt
  go_wp2_with fail
  refine (markMachine _ _ M1 bs18 (1 + (cntSS x0.x : Int)) _ ho18'''''' (by omega) (by omega) (by omega)).mono ?_
  rintro e w37 ⟨rfl, hq37, hon37⟩
  clear hc1x0 gc1x0 hc1x1 gc1x1 l1 hc2x0 gc2x0 hc2x1 gc2x1 l2 hc3x0 gc3x0 hc3x1 gc3x1 l3 hc8x0 gc8x0 hc8x1 gc8x1 l8 hc17x0 gc17x0 hc17x1 gc17x1 l17 hc20x0 gc20x0 hc20x1 gc20x1 l20 hc22x0 gc22x0 hc22x1 gc22x1 l22
  have sz38 := hon37.size
  try simp only [World.size_alloc] at sz38
  have hB'''''''''''''''' := hB'''''''''''''''.trans (hon37.below hB'''''''''''''''.size (fun b hb => by have := lo18 b hb; omega))
  clear hB'''''''''''''''
  have k1''''''''''''''' := k1''''''''''''''.only hon37 (fun hm => by have := lo18 _ hm; have := hi18 _ hm; omega)
  clear k1''''''''''''''
  have k2'''''''''''''' := k2'''''''''''''.only hon37 (fun hm => by have := lo18 _ hm; have := hi18 _ hm; omega)
  clear k2'''''''''''''
  have k3''''''''''''' := k3''''''''''''.only hon37 (fun hm => by have := lo18 _ hm; have := hi18 _ hm; omega)
  clear k3''''''''''''
  have kg8'''''''''' := kg8'''''''''.only hon37 (fun hm => by have := lo18 _ hm; have := hi18 _ hm; omega)
  clear kg8'''''''''
  have k17'''''''' := k17'''''''.only hon37 (fun hm => by have := lo18 _ hm; have := hi18 _ hm; omega)
  clear k17'''''''
  have k20'''''' := k20'''''.only hon37 (fun hm => by have := lo18 _ hm; have := hi18 _ hm; omega)
  clear k20'''''
  have kg22''''' := kg22''''.only hon37 (fun hm => by have := lo18 _ hm; have := hi18 _ hm; omega)
  clear kg22''''
  have ho13'''''''''' := ho13'''''''''.only hon37 (fun b hb hm => by have := lo18 b hm; have := hi18 b hm; have := lo13 b hb; have := hi13 b hb; omega)
  clear ho13'''''''''
  have hq35' := hq35.only hon37 (fun b hb hm => by have := lo18 b hm; have := hi18 b hm; have := lo15 b hb; have := hi15 b hb; omega)
  clear hq35
  have ho25''''' := ho25''''.only hon37 (fun b hb hm => by have := lo18 b hm; have := hi18 b hm; have := lo25 b hb; have := hi25 b hb; omega)
  clear ho25''''
  obtain ⟨hc1x0, gc1x0⟩ := k1'''''''''''''''.at_ 0 (x := .int .i64 x0.c) rfl
  obtain ⟨hc1x1, gc1x1⟩ := k1'''''''''''''''.at_ 1 (x := .slice Aa0 x0.x.length da0) rfl
  have l1 := k1'''''''''''''''.lt
  obtain ⟨hc2x0, gc2x0⟩ := k2''''''''''''''.at_ 0 (x := .slice Aa1 M1.mem.length da1) rfl
  obtain ⟨hc2x1, gc2x1⟩ := k2''''''''''''''.at_ 1 (x := .slice Ba1 M1.ths.length ea1) rfl
  have l2 := k2''''''''''''''.lt
  obtain ⟨hc3x0, gc3x0⟩ := k3'''''''''''''.at_ 0 (x := .int .i64 m2.t) rfl
  obtain ⟨hc3x1, gc3x1⟩ := k3'''''''''''''.at_ 1 (x := .bool m2.d) rfl
  have l3 := k3'''''''''''''.lt
  obtain ⟨hc8x0, gc8x0⟩ := kg8''''''''''.at_ 0 (x := .slice A13 (doF x0 M1 m2).mem.length d13) rfl
  obtain ⟨hc8x1, gc8x1⟩ := kg8''''''''''.at_ 1 (x := .slice B13 (doF x0 M1 m2).ths.length e13) rfl
  have l8 := kg8''''''''''.lt
  obtain ⟨hc17x0, gc17x0⟩ := k17''''''''.at_ 0 (x := .int .i64 x0.c) rfl
  obtain ⟨hc17x1, gc17x1⟩ := k17''''''''.at_ 1 (x := .slice A15 x0.x.length d15) rfl
  have l17 := k17''''''''.lt
  obtain ⟨hc20x0, gc20x0⟩ := k20''''''.at_ 0 (x := .slice A18 M1.mem.length d18) rfl
  obtain ⟨hc20x1, gc20x1⟩ := k20''''''.at_ 1 (x := .slice B18 M1.ths.length e18) rfl
  have l20 := k20''''''.lt
  obtain ⟨hc22x0, gc22x0⟩ := kg22'''''.at_ 0 (x := .slice A25 (doF x0 M1 m2).mem.length d25) rfl
  obtain ⟨hc22x1, gc22x1⟩ := kg22'''''.at_ 1 (x := .slice B25 (doF x0 M1 m2).ths.length e25) rfl
  have l22 := kg22'''''.lt
  go_wp2_with fail
  refine (eqMachine _ _ _ _ ((doF x0 M1 m2)) ((doF x0 M1 m2)) _ ho25'''''.rd ho13''''''''''.rd).mono ?_
  rintro e w39 ⟨rfl, hb39⟩
  rw [decide_eq_true rfl]
  clear hc1x0 gc1x0 hc1x1 gc1x1 l1 hc2x0 gc2x0 hc2x1 gc2x1 l2 hc3x0 gc3x0 hc3x1 gc3x1 l3 hc8x0 gc8x0 hc8x1 gc8x1 l8 hc17x0 gc17x0 hc17x1 gc17x1 l17 hc20x0 gc20x0 hc20x1 gc20x1 l20 hc22x0 gc22x0 hc22x1 gc22x1 l22
  have sz40 := hb39.size
  try simp only [World.size_alloc] at sz40
  have hB''''''''''''''''' := hB''''''''''''''''.trans (hb39.mono hB''''''''''''''''.size)
  clear hB''''''''''''''''
  have k1'''''''''''''''' := k1'''''''''''''''.below hb39 k1'''''''''''''''.lt
  clear k1'''''''''''''''
  have k2''''''''''''''' := k2''''''''''''''.below hb39 k2''''''''''''''.lt
  clear k2''''''''''''''
  have k3'''''''''''''' := k3'''''''''''''.below hb39 k3'''''''''''''.lt
  clear k3'''''''''''''
  have kg8''''''''''' := kg8''''''''''.below hb39 kg8''''''''''.lt
  clear kg8''''''''''
  have k17''''''''' := k17''''''''.below hb39 k17''''''''.lt
  clear k17''''''''
  have k20''''''' := k20''''''.below hb39 k20''''''.lt
  clear k20''''''
  have kg22'''''' := kg22'''''.below hb39 kg22'''''.lt
  clear kg22'''''
  have ho13''''''''''' := ho13''''''''''.below hb39
  clear ho13''''''''''
  have hq35'' := hq35'.below hb39
  clear hq35'
  have hq37' := hq37.below hb39
  clear hq37
  have ho25'''''' := ho25'''''.below hb39
  clear ho25'''''
  obtain ⟨hc1x0, gc1x0⟩ := k1''''''''''''''''.at_ 0 (x := .int .i64 x0.c) rfl
  obtain ⟨hc1x1, gc1x1⟩ := k1''''''''''''''''.at_ 1 (x := .slice Aa0 x0.x.length da0) rfl
  have l1 := k1''''''''''''''''.lt
  obtain ⟨hc2x0, gc2x0⟩ := k2'''''''''''''''.at_ 0 (x := .slice Aa1 M1.mem.length da1) rfl
  obtain ⟨hc2x1, gc2x1⟩ := k2'''''''''''''''.at_ 1 (x := .slice Ba1 M1.ths.length ea1) rfl
  have l2 := k2'''''''''''''''.lt
  obtain ⟨hc3x0, gc3x0⟩ := k3''''''''''''''.at_ 0 (x := .int .i64 m2.t) rfl
  obtain ⟨hc3x1, gc3x1⟩ := k3''''''''''''''.at_ 1 (x := .bool m2.d) rfl
  have l3 := k3''''''''''''''.lt
  obtain ⟨hc8x0, gc8x0⟩ := kg8'''''''''''.at_ 0 (x := .slice A13 (doF x0 M1 m2).mem.length d13) rfl
  obtain ⟨hc8x1, gc8x1⟩ := kg8'''''''''''.at_ 1 (x := .slice B13 (doF x0 M1 m2).ths.length e13) rfl
  have l8 := kg8'''''''''''.lt
  obtain ⟨hc17x0, gc17x0⟩ := k17'''''''''.at_ 0 (x := .int .i64 x0.c) rfl
  obtain ⟨hc17x1, gc17x1⟩ := k17'''''''''.at_ 1 (x := .slice A15 x0.x.length d15) rfl
  have l17 := k17'''''''''.lt
  obtain ⟨hc20x0, gc20x0⟩ := k20'''''''.at_ 0 (x := .slice A18 M1.mem.length d18) rfl
  obtain ⟨hc20x1, gc20x1⟩ := k20'''''''.at_ 1 (x := .slice B18 M1.ths.length e18) rfl
  have l20 := k20'''''''.lt
  obtain ⟨hc22x0, gc22x0⟩ := kg22''''''.at_ 0 (x := .slice A25 (doF x0 M1 m2).mem.length d25) rfl
  obtain ⟨hc22x1, gc22x1⟩ := kg22''''''.at_ 1 (x := .slice B25 (doF x0 M1 m2).ths.length e25) rfl
  have l22 := kg22''''''.lt
  go_wp2_with fail
  refine (markMachine _ _ (doF x0 M1 m2) bs25 (1) _ ho25'''''' (by omega) (by omega) (by omega)).mono ?_
  rintro e w41 ⟨rfl, hq41, hon41⟩
  clear hc1x0 gc1x0 hc1x1 gc1x1 l1 hc2x0 gc2x0 hc2x1 gc2x1 l2 hc3x0 gc3x0 hc3x1 gc3x1 l3 hc8x0 gc8x0 hc8x1 gc8x1 l8 hc17x0 gc17x0 hc17x1 gc17x1 l17 hc20x0 gc20x0 hc20x1 gc20x1 l20 hc22x0 gc22x0 hc22x1 gc22x1 l22
  have sz42 := hon41.size
  try simp only [World.size_alloc] at sz42
  have hB'''''''''''''''''' := hB'''''''''''''''''.trans (hon41.below hB'''''''''''''''''.size (fun b hb => by have := lo25 b hb; omega))
  clear hB'''''''''''''''''
  have k1''''''''''''''''' := k1''''''''''''''''.only hon41 (fun hm => by have := lo25 _ hm; have := hi25 _ hm; omega)
  clear k1''''''''''''''''
  have k2'''''''''''''''' := k2'''''''''''''''.only hon41 (fun hm => by have := lo25 _ hm; have := hi25 _ hm; omega)
  clear k2'''''''''''''''
  have k3''''''''''''''' := k3''''''''''''''.only hon41 (fun hm => by have := lo25 _ hm; have := hi25 _ hm; omega)
  clear k3''''''''''''''
  have kg8'''''''''''' := kg8'''''''''''.only hon41 (fun hm => by have := lo25 _ hm; have := hi25 _ hm; omega)
  clear kg8'''''''''''
  have k17'''''''''' := k17'''''''''.only hon41 (fun hm => by have := lo25 _ hm; have := hi25 _ hm; omega)
  clear k17'''''''''
  have k20'''''''' := k20'''''''.only hon41 (fun hm => by have := lo25 _ hm; have := hi25 _ hm; omega)
  clear k20'''''''
  have kg22''''''' := kg22''''''.only hon41 ng22
  clear kg22''''''
  have ho13'''''''''''' := ho13'''''''''''.only hon41 (fun b hb hm => by have := lo25 b hm; have := hi25 b hm; have := lo13 b hb; have := hi13 b hb; omega)
  clear ho13'''''''''''
  have hq35''' := hq35''.only hon41 (fun b hb hm => by have := lo25 b hm; have := hi25 b hm; have := lo15 b hb; have := hi15 b hb; omega)
  clear hq35''
  have hq37'' := hq37'.only hon41 (fun b hb hm => by have := lo25 b hm; have := hi25 b hm; have := lo18 b hb; have := hi18 b hb; omega)
  clear hq37'
  obtain ⟨hc1x0, gc1x0⟩ := k1'''''''''''''''''.at_ 0 (x := .int .i64 x0.c) rfl
  obtain ⟨hc1x1, gc1x1⟩ := k1'''''''''''''''''.at_ 1 (x := .slice Aa0 x0.x.length da0) rfl
  have l1 := k1'''''''''''''''''.lt
  obtain ⟨hc2x0, gc2x0⟩ := k2''''''''''''''''.at_ 0 (x := .slice Aa1 M1.mem.length da1) rfl
  obtain ⟨hc2x1, gc2x1⟩ := k2''''''''''''''''.at_ 1 (x := .slice Ba1 M1.ths.length ea1) rfl
  have l2 := k2''''''''''''''''.lt
  obtain ⟨hc3x0, gc3x0⟩ := k3'''''''''''''''.at_ 0 (x := .int .i64 m2.t) rfl
  obtain ⟨hc3x1, gc3x1⟩ := k3'''''''''''''''.at_ 1 (x := .bool m2.d) rfl
  have l3 := k3'''''''''''''''.lt
  obtain ⟨hc8x0, gc8x0⟩ := kg8''''''''''''.at_ 0 (x := .slice A13 (doF x0 M1 m2).mem.length d13) rfl
  obtain ⟨hc8x1, gc8x1⟩ := kg8''''''''''''.at_ 1 (x := .slice B13 (doF x0 M1 m2).ths.length e13) rfl
  have l8 := kg8''''''''''''.lt
  obtain ⟨hc17x0, gc17x0⟩ := k17''''''''''.at_ 0 (x := .int .i64 x0.c) rfl
  obtain ⟨hc17x1, gc17x1⟩ := k17''''''''''.at_ 1 (x := .slice A15 x0.x.length d15) rfl
  have l17 := k17''''''''''.lt
  obtain ⟨hc20x0, gc20x0⟩ := k20''''''''.at_ 0 (x := .slice A18 M1.mem.length d18) rfl
  obtain ⟨hc20x1, gc20x1⟩ := k20''''''''.at_ 1 (x := .slice B18 M1.ths.length e18) rfl
  have l20 := k20''''''''.lt
  obtain ⟨hc22x0, gc22x0⟩ := kg22'''''''.at_ 0 (x := .slice A25 (doF x0 M1 m2).mem.length d25) rfl
  obtain ⟨hc22x1, gc22x1⟩ := kg22'''''''.at_ 1 (x := .slice B25 (doF x0 M1 m2).ths.length e25) rfl
  have l22 := kg22'''''''.lt
  go_wp2_with fail
  refine (heldMachine _ _ (doF x0 M1 m2) (1) _ hq41.rd (by omega) (by omega) (by omega)).mono ?_
  rintro e w43 ⟨rfl, hb43⟩
  clear hc1x0 gc1x0 hc1x1 gc1x1 l1 hc2x0 gc2x0 hc2x1 gc2x1 l2 hc3x0 gc3x0 hc3x1 gc3x1 l3 hc8x0 gc8x0 hc8x1 gc8x1 l8 hc17x0 gc17x0 hc17x1 gc17x1 l17 hc20x0 gc20x0 hc20x1 gc20x1 l20 hc22x0 gc22x0 hc22x1 gc22x1 l22
  have sz44 := hb43.size
  try simp only [World.size_alloc] at sz44
  have hB''''''''''''''''''' := hB''''''''''''''''''.trans (hb43.mono hB''''''''''''''''''.size)
  clear hB''''''''''''''''''
  have k1'''''''''''''''''' := k1'''''''''''''''''.below hb43 k1'''''''''''''''''.lt
  clear k1'''''''''''''''''
  have k2''''''''''''''''' := k2''''''''''''''''.below hb43 k2''''''''''''''''.lt
  clear k2''''''''''''''''
  have k3'''''''''''''''' := k3'''''''''''''''.below hb43 k3'''''''''''''''.lt
  clear k3'''''''''''''''
  have kg8''''''''''''' := kg8''''''''''''.below hb43 kg8''''''''''''.lt
  clear kg8''''''''''''
  have k17''''''''''' := k17''''''''''.below hb43 k17''''''''''.lt
  clear k17''''''''''
  have k20''''''''' := k20''''''''.below hb43 k20''''''''.lt
  clear k20''''''''
  have kg22'''''''' := kg22'''''''.below hb43 kg22'''''''.lt
  clear kg22'''''''
  have ho13''''''''''''' := ho13''''''''''''.below hb43
  clear ho13''''''''''''
  have hq35'''' := hq35'''.below hb43
  clear hq35'''
  have hq37''' := hq37''.below hb43
  clear hq37''
  have hq41' := hq41.below hb43
  clear hq41
  obtain ⟨hc1x0, gc1x0⟩ := k1''''''''''''''''''.at_ 0 (x := .int .i64 x0.c) rfl
  obtain ⟨hc1x1, gc1x1⟩ := k1''''''''''''''''''.at_ 1 (x := .slice Aa0 x0.x.length da0) rfl
  have l1 := k1''''''''''''''''''.lt
  obtain ⟨hc2x0, gc2x0⟩ := k2'''''''''''''''''.at_ 0 (x := .slice Aa1 M1.mem.length da1) rfl
  obtain ⟨hc2x1, gc2x1⟩ := k2'''''''''''''''''.at_ 1 (x := .slice Ba1 M1.ths.length ea1) rfl
  have l2 := k2'''''''''''''''''.lt
  obtain ⟨hc3x0, gc3x0⟩ := k3''''''''''''''''.at_ 0 (x := .int .i64 m2.t) rfl
  obtain ⟨hc3x1, gc3x1⟩ := k3''''''''''''''''.at_ 1 (x := .bool m2.d) rfl
  have l3 := k3''''''''''''''''.lt
  obtain ⟨hc8x0, gc8x0⟩ := kg8'''''''''''''.at_ 0 (x := .slice A13 (doF x0 M1 m2).mem.length d13) rfl
  obtain ⟨hc8x1, gc8x1⟩ := kg8'''''''''''''.at_ 1 (x := .slice B13 (doF x0 M1 m2).ths.length e13) rfl
  have l8 := kg8'''''''''''''.lt
  obtain ⟨hc17x0, gc17x0⟩ := k17'''''''''''.at_ 0 (x := .int .i64 x0.c) rfl
  obtain ⟨hc17x1, gc17x1⟩ := k17'''''''''''.at_ 1 (x := .slice A15 x0.x.length d15) rfl
  have l17 := k17'''''''''''.lt
  obtain ⟨hc20x0, gc20x0⟩ := k20'''''''''.at_ 0 (x := .slice A18 M1.mem.length d18) rfl
  obtain ⟨hc20x1, gc20x1⟩ := k20'''''''''.at_ 1 (x := .slice B18 M1.ths.length e18) rfl
  have l20 := k20'''''''''.lt
  obtain ⟨hc22x0, gc22x0⟩ := kg22''''''''.at_ 0 (x := .slice A25 (doF x0 M1 m2).mem.length d25) rfl
  obtain ⟨hc22x1, gc22x1⟩ := kg22''''''''.at_ 1 (x := .slice B25 (doF x0 M1 m2).ths.length e25) rfl
  have l22 := kg22''''''''.lt
  go_wp2_with fail
  clear hc1x0 gc1x0 hc1x1 gc1x1 l1 hc2x0 gc2x0 hc2x1 gc2x1 l2 hc3x0 gc3x0 hc3x1 gc3x1 l3 hc8x0 gc8x0 hc8x1 gc8x1 l8 hc17x0 gc17x0 hc17x1 gc17x1 l17 hc20x0 gc20x0 hc20x1 gc20x1 l20 hc22x0 gc22x0 hc22x1 gc22x1 l22
  obtain ⟨hc1x0, gc1x0⟩ := k1''''''''''''''''''.at_ 0 (x := .int .i64 x0.c) rfl
  obtain ⟨hc1x1, gc1x1⟩ := k1''''''''''''''''''.at_ 1 (x := .slice Aa0 x0.x.length da0) rfl
  have l1 := k1''''''''''''''''''.lt
  obtain ⟨hc2x0, gc2x0⟩ := k2'''''''''''''''''.at_ 0 (x := .slice Aa1 M1.mem.length da1) rfl
  obtain ⟨hc2x1, gc2x1⟩ := k2'''''''''''''''''.at_ 1 (x := .slice Ba1 M1.ths.length ea1) rfl
  have l2 := k2'''''''''''''''''.lt
  obtain ⟨hc3x0, gc3x0⟩ := k3''''''''''''''''.at_ 0 (x := .int .i64 m2.t) rfl
  obtain ⟨hc3x1, gc3x1⟩ := k3''''''''''''''''.at_ 1 (x := .bool m2.d) rfl
  have l3 := k3''''''''''''''''.lt
  obtain ⟨hc8x0, gc8x0⟩ := kg8'''''''''''''.at_ 0 (x := .slice A13 (doF x0 M1 m2).mem.length d13) rfl
  obtain ⟨hc8x1, gc8x1⟩ := kg8'''''''''''''.at_ 1 (x := .slice B13 (doF x0 M1 m2).ths.length e13) rfl
  have l8 := kg8'''''''''''''.lt
  obtain ⟨hc17x0, gc17x0⟩ := k17'''''''''''.at_ 0 (x := .int .i64 x0.c) rfl
  obtain ⟨hc17x1, gc17x1⟩ := k17'''''''''''.at_ 1 (x := .slice A15 x0.x.length d15) rfl
  have l17 := k17'''''''''''.lt
  obtain ⟨hc20x0, gc20x0⟩ := k20'''''''''.at_ 0 (x := .slice A18 M1.mem.length d18) rfl
  obtain ⟨hc20x1, gc20x1⟩ := k20'''''''''.at_ 1 (x := .slice B18 M1.ths.length e18) rfl
  have l20 := k20'''''''''.lt
  obtain ⟨hc22x0, gc22x0⟩ := kg22''''''''.at_ 0 (x := .slice A25 (doF x0 M1 m2).mem.length d25) rfl
  obtain ⟨hc22x1, gc22x1⟩ := kg22''''''''.at_ 1 (x := .slice B25 (doF x0 M1 m2).ths.length e25) rfl
  have l22 := kg22''''''''.lt
  have HS45 : Hid (∀ W : World, Below w43.heap.size w43 W → Below w43.heap.size w43 W ∧ W.cell? ⟨w.heap.size, 0, none⟩ = some (.int .i64 x0.c) ∧ W.cell? ⟨w.heap.size, 1, none⟩ = some (.slice Aa0 x0.x.length da0) ∧ W.cell? ⟨w.heap.size + 1, 0, none⟩ = some (.slice Aa1 M1.mem.length da1) ∧ W.cell? ⟨w.heap.size + 1, 1, none⟩ = some (.slice Ba1 M1.ths.length ea1) ∧ W.cell? ⟨w.heap.size + 1 + 1, 0, none⟩ = some (.int .i64 m2.t) ∧ W.cell? ⟨w.heap.size + 1 + 1, 1, none⟩ = some (.bool m2.d)) := Lib.hid fun W hW => ⟨hW, (hW.cell (p := ⟨w.heap.size, 0, none⟩) k1''''''''''''''''''.lt).trans hc1x0, (hW.cell (p := ⟨w.heap.size, 1, none⟩) k1''''''''''''''''''.lt).trans hc1x1, (hW.cell (p := ⟨w.heap.size + 1, 0, none⟩) k2'''''''''''''''''.lt).trans hc2x0, (hW.cell (p := ⟨w.heap.size + 1, 1, none⟩) k2'''''''''''''''''.lt).trans hc2x1, (hW.cell (p := ⟨w.heap.size + 1 + 1, 0, none⟩) k3''''''''''''''''.lt).trans hc3x0, (hW.cell (p := ⟨w.heap.size + 1 + 1, 1, none⟩) k3''''''''''''''''.lt).trans hc3x1⟩
  have KN45 : Hid (Bk ((w43.alloc (.cells #[.slice none 0 0, .slice none 0 0] 38)).drew) w43.heap.size #[.slice none 0 0, .slice none 0 0] 38) := Lib.hid (Bk.new w43 #[.slice none 0 0, .slice none 0 0] 38)
  have HN45 : Hid (Below w43.heap.size w43 (w43.alloc (.cells #[.slice none 0 0, .slice none 0 0] 38)).drew) := Lib.hid ((Below.refl _ w43).alloc (Nat.le_refl _) _).drew
  have HB45 := Lib.hid hB'''''''''''''''''''
  have nb45x1 : w.heap.size ≠ w43.heap.size := by have := k1''''''''''''''''''.lt; omega
  have nb45x2 : w.heap.size + 1 ≠ w43.heap.size := by have := k2'''''''''''''''''.lt; omega
  have nb45x3 : w.heap.size + 1 + 1 ≠ w43.heap.size := by have := k3''''''''''''''''.lt; omega
  go_cut [17, 18] (fun p45x0 p45x1 wz => ∃ (A50 : Option Addr) (d50 : Nat) (B50 : Option Addr) (e50 : Nat) (bs50 : List Nat) (g45 : Nat), p45x0 = .pointer (some ⟨g45, 0, none⟩) ∧ p45x1 = .bool (canMv x0 M1 m2) ∧ OwnMa wz (.slice A50 (doF x0 M1 m2).mem.length d50) (.slice B50 (doF x0 M1 m2).ths.length e50) (doF x0 M1 m2) bs50 ∧ (∀ b ∈ bs50, w43.heap.size ≤ b) ∧ Bk wz g45 #[.slice A50 (doF x0 M1 m2).mem.length d50, .slice B50 (doF x0 M1 m2).ths.length e50] 38 ∧ w43.heap.size ≤ g45 ∧ Below w43.heap.size w43 wz)
  case first =>
    go_region_held3 (fun W => Below w43.heap.size w43 W ∧ W.cell? ⟨w.heap.size, 0, none⟩ = some (.int .i64 x0.c) ∧ W.cell? ⟨w.heap.size, 1, none⟩ = some (.slice Aa0 x0.x.length da0) ∧ W.cell? ⟨w.heap.size + 1, 0, none⟩ = some (.slice Aa1 M1.mem.length da1) ∧ W.cell? ⟨w.heap.size + 1, 1, none⟩ = some (.slice Ba1 M1.ths.length ea1) ∧ W.cell? ⟨w.heap.size + 1 + 1, 0, none⟩ = some (.int .i64 m2.t) ∧ W.cell? ⟨w.heap.size + 1 + 1, 1, none⟩ = some (.bool m2.d)) (first | (exact HS45.out _ (Below.refl _ _).drew) | (exact HS45.out _ HN45.out) | (exact HS45.out _ (hS45x0.alloc hS45x0.size _)) | (exact HS45.out _ (hS45x1.alloc hS45x1.size _)) | (exact HS45.out _ (hS45x2.alloc hS45x2.size _)) | (exact HS45.out _ (hS45x3.alloc hS45x3.size _)) | (exact HS45.out _ ((hS45x3.setCell (Nat.le_refl _) _).setCell (Nat.le_refl _) _)) | (exact HS45.out _ ((hS45x3.setCell hS45x0.size _).setCell hS45x0.size _)) | (exact HS45.out _ ((hS45x3.setCell hS45x1.size _).setCell hS45x1.size _)) | (exact HS45.out _ ((hS45x3.setCell hS45x2.size _).setCell hS45x2.size _)) | (exact HS45.out _ ((hS45x3.setCell hS45x3.size _).setCell hS45x3.size _)) | (exact HS45.out _ (by assumption)))
      (first
        | (go_at_call_of 10 (Value.agg #[Value.int .i64 x0.c, Value.slice Aa0 x0.x.length da0] : Value); have hS := ‹Below w43.heap.size w43 _ ∧ _›.1; refine (toProg _ x0 _ (HAaP.out.below (HB45.out.trans (hS.mono HB45.out.size))) (by omega)).mono ?_; rintro e w46 ⟨v46x0, bs46, rfl, ho46, lo46, hb46⟩; have hS45x0 := hS.trans (hb46.mono hS.size); clear hS; (first | (have q45x0 := KN45.out.below hb46 KN45.out.lt) | skip))
        | (go_at_call_of 11 (Value.agg #[Value.slice Aa1 M1.mem.length da1, Value.slice Ba1 M1.ths.length ea1] : Value); have hS := ‹Below w43.heap.size w43 _ ∧ _›.1; refine (toMachine _ _ M1 _ (HAaM.out.below (HB45.out.trans (hS.mono HB45.out.size))) (by omega)).mono ?_; rintro e w47 ⟨v47x0, v47x1, bs47, rfl, ho47, lo47, hb47⟩; have hS45x1 := hS.trans (hb47.mono hS.size); clear hS; (first | (have ho46 := ho46.below hb47) | (have ho46 := (ho46.below ((Below.refl _ w46).alloc (Nat.le_refl _) (.cells #[.slice none 0 0, .slice none 0 0] 38))).below hb47)); (first | (have q45x1 := q45x0.below hb47 q45x0.lt) | (have q45x1 := (Bk.new w46 #[.slice none 0 0, .slice none 0 0] 38).below hb47 (Bk.new w46 #[.slice none 0 0, .slice none 0 0] 38).lt) | skip))
        | (go_at_call_of 12 (Value.agg #[Value.int .i64 m2.t, .bool m2.d] : Value); have hS := ‹Below w43.heap.size w43 _ ∧ _›.1; refine (toMove m2 _).mono ?_; rintro e w48 ⟨rfl, hb48⟩; have hS45x2 := hS.trans (hb48.mono hS.size); clear hS; (first | (have ho46 := ho46.below hb48) | (have ho46 := (ho46.below ((Below.refl _ w47).alloc (Nat.le_refl _) (.cells #[.slice none 0 0, .slice none 0 0] 38))).below hb48)); (first | (have ho47 := ho47.below hb48) | (have ho47 := (ho47.below ((Below.refl _ w47).alloc (Nat.le_refl _) (.cells #[.slice none 0 0, .slice none 0 0] 38))).below hb48)); (first | (have q45x2 := q45x1.below hb48 q45x1.lt) | (have q45x2 := (Bk.new w47 #[.slice none 0 0, .slice none 0 0] 38).below hb48 (Bk.new w47 #[.slice none 0 0, .slice none 0 0] 38).lt) | skip))
        | (go_at_call 13; have hS := ‹Below w43.heap.size w43 _ ∧ _›.1; refine (impl_DoMove _ _ _ x0 M1 m2 _ ho46.rd ho47.rd (by omega)).mono ?_; rintro e w49 ⟨v50x0, v50x1, bs50, rfl, ho50, lo50, hb49⟩; have hS45x3 := hS.trans (hb49.mono hS.size); clear hS; obtain ⟨A50, d50, B50, e50, rfl, rfl⟩ := ho50.slices; (first | (have q45x3 := q45x2.below hb49 q45x2.lt) | (have q45x3 := (Bk.new w48 #[.slice none 0 0, .slice none 0 0] 38).below hb49 (Bk.new w48 #[.slice none 0 0, .slice none 0 0] 38).lt) | skip); try (obtain ⟨hq45, hg45⟩ := q45x3.at_ 0 (x := .slice none 0 0) rfl); try (obtain ⟨hq45b, hg45b⟩ := q45x3.at_ 1 (x := .slice none 0 0) rfl))
        | (go_at_call 13; have hS := ‹Below w43.heap.size w43 _ ∧ _›.1; refine (impl_DoMove _ _ _ x0 M1 m2 _ (ho46.below ((Below.refl _ w48).alloc (Nat.le_refl _) (.cells #[.slice none 0 0, .slice none 0 0] 38))).rd (ho47.below ((Below.refl _ w48).alloc (Nat.le_refl _) (.cells #[.slice none 0 0, .slice none 0 0] 38))).rd (by omega)).mono ?_; rintro e w49 ⟨v50x0, v50x1, bs50, rfl, ho50, lo50, hb49⟩; have hS45x3 := hS.trans (hb49.mono hS.size); clear hS; obtain ⟨A50, d50, B50, e50, rfl, rfl⟩ := ho50.slices; (first | (have q45x3 := q45x2.below hb49 q45x2.lt) | (have q45x3 := (Bk.new w48 #[.slice none 0 0, .slice none 0 0] 38).below hb49 (Bk.new w48 #[.slice none 0 0, .slice none 0 0] 38).lt) | skip); try (obtain ⟨hq45, hg45⟩ := q45x3.at_ 0 (x := .slice none 0 0) rfl); try (obtain ⟨hq45b, hg45b⟩ := q45x3.at_ 1 (x := .slice none 0 0) rfl)))
    all_goals go_wp2_with fail
    all_goals go_meet
    all_goals (try have s45w46 := hS45x0.size)
    all_goals (try have s45w47 := hS45x1.size)
    all_goals (try have s45w48 := hS45x2.size)
    all_goals (try have t45hb46 := hb46.size)
    all_goals (try simp at t45hb46)
    all_goals (try have t45hb47 := hb47.size)
    all_goals (try simp at t45hb47)
    all_goals (try have t45hb48 := hb48.size)
    all_goals (try simp at t45hb48)
    all_goals (try have t45hb49 := hb49.size)
    all_goals (try simp at t45hb49)
    all_goals (first | exact ⟨A50, d50, B50, e50, bs50, _, rfl, rfl, ho50.below ((Below.refl _ _).alloc (Nat.le_refl _) _), fun b hb => Nat.le_trans (by first | omega | (simp; omega) | simp) (lo50 b hb), Bk.new _ _ _, hS45x3.size, hS45x3.alloc hS45x3.size _⟩ | exact ⟨A50, d50, B50, e50, bs50, _, rfl, rfl, (ho50.far (fun k hk => by have := lo50 k hk; (try simp only [World.size_alloc] at this); omega)).far (fun k hk => by have := lo50 k hk; (try simp only [World.size_alloc] at this); omega), fun b hb => Nat.le_trans (by first | omega | (simp; omega) | simp) (lo50 b hb), by simpa using (q45x3.set_ 0 (.slice A50 (doF x0 M1 m2).mem.length d50)).set_ 1 (.slice B50 (doF x0 M1 m2).ths.length e50), by first | exact Nat.le_refl _ | omega, (hS45x3.setCell (by first | exact Nat.le_refl _ | (show w43.heap.size ≤ _; omega)) _).setCell (by first | exact Nat.le_refl _ | (show w43.heap.size ≤ _; omega)) _⟩)
  obtain ⟨A50, d50, B50, e50, bs50, g45, rfl, rfl, ho50, lo50, kg45, hgl45, hBc45⟩ := hcut
  rename World => wc45
  have hgt45 := kg45.lt
  clear HS45 KN45 HN45 HB45 nb45x1 nb45x2 nb45x3
  clear hc1x0 gc1x0 hc1x1 gc1x1 l1 hc2x0 gc2x0 hc2x1 gc2x1 l2 hc3x0 gc3x0 hc3x1 gc3x1 l3 hc8x0 gc8x0 hc8x1 gc8x1 l8 hc17x0 gc17x0 hc17x1 gc17x1 l17 hc20x0 gc20x0 hc20x1 gc20x1 l20 hc22x0 gc22x0 hc22x1 gc22x1 l22
  have sz51 := hBc45.size
  try simp only [World.size_alloc] at sz51
  have hB'''''''''''''''''''' := hB'''''''''''''''''''.trans (hBc45.mono hB'''''''''''''''''''.size)
  clear hB'''''''''''''''''''
  have k1''''''''''''''''''' := k1''''''''''''''''''.below hBc45 k1''''''''''''''''''.lt
  clear k1''''''''''''''''''
  have k2'''''''''''''''''' := k2'''''''''''''''''.below hBc45 k2'''''''''''''''''.lt
  clear k2'''''''''''''''''
  have k3''''''''''''''''' := k3''''''''''''''''.below hBc45 k3''''''''''''''''.lt
  clear k3''''''''''''''''
  have kg8'''''''''''''' := kg8'''''''''''''.below hBc45 kg8'''''''''''''.lt
  clear kg8'''''''''''''
  have k17'''''''''''' := k17'''''''''''.below hBc45 k17'''''''''''.lt
  clear k17'''''''''''
  have k20'''''''''' := k20'''''''''.below hBc45 k20'''''''''.lt
  clear k20'''''''''
  have kg22''''''''' := kg22''''''''.below hBc45 kg22''''''''.lt
  clear kg22''''''''
  have ho13'''''''''''''' := ho13'''''''''''''.below hBc45
  clear ho13'''''''''''''
  have hq35''''' := hq35''''.below hBc45
  clear hq35''''
  have hq37'''' := hq37'''.below hBc45
  clear hq37'''
  have hq41'' := hq41'.below hBc45
  clear hq41'
  have hi50 := ho50.lt
  obtain ⟨hc1x0, gc1x0⟩ := k1'''''''''''''''''''.at_ 0 (x := .int .i64 x0.c) rfl
  obtain ⟨hc1x1, gc1x1⟩ := k1'''''''''''''''''''.at_ 1 (x := .slice Aa0 x0.x.length da0) rfl
  have l1 := k1'''''''''''''''''''.lt
  obtain ⟨hc2x0, gc2x0⟩ := k2''''''''''''''''''.at_ 0 (x := .slice Aa1 M1.mem.length da1) rfl
  obtain ⟨hc2x1, gc2x1⟩ := k2''''''''''''''''''.at_ 1 (x := .slice Ba1 M1.ths.length ea1) rfl
  have l2 := k2''''''''''''''''''.lt
  obtain ⟨hc3x0, gc3x0⟩ := k3'''''''''''''''''.at_ 0 (x := .int .i64 m2.t) rfl
  obtain ⟨hc3x1, gc3x1⟩ := k3'''''''''''''''''.at_ 1 (x := .bool m2.d) rfl
  have l3 := k3'''''''''''''''''.lt
  obtain ⟨hc8x0, gc8x0⟩ := kg8''''''''''''''.at_ 0 (x := .slice A13 (doF x0 M1 m2).mem.length d13) rfl
  obtain ⟨hc8x1, gc8x1⟩ := kg8''''''''''''''.at_ 1 (x := .slice B13 (doF x0 M1 m2).ths.length e13) rfl
  have l8 := kg8''''''''''''''.lt
  obtain ⟨hc17x0, gc17x0⟩ := k17''''''''''''.at_ 0 (x := .int .i64 x0.c) rfl
  obtain ⟨hc17x1, gc17x1⟩ := k17''''''''''''.at_ 1 (x := .slice A15 x0.x.length d15) rfl
  have l17 := k17''''''''''''.lt
  obtain ⟨hc20x0, gc20x0⟩ := k20''''''''''.at_ 0 (x := .slice A18 M1.mem.length d18) rfl
  obtain ⟨hc20x1, gc20x1⟩ := k20''''''''''.at_ 1 (x := .slice B18 M1.ths.length e18) rfl
  have l20 := k20''''''''''.lt
  obtain ⟨hc22x0, gc22x0⟩ := kg22'''''''''.at_ 0 (x := .slice A25 (doF x0 M1 m2).mem.length d25) rfl
  obtain ⟨hc22x1, gc22x1⟩ := kg22'''''''''.at_ 1 (x := .slice B25 (doF x0 M1 m2).ths.length e25) rfl
  have l22 := kg22'''''''''.lt
  obtain ⟨hc45x0, gc45x0⟩ := kg45.at_ 0 (x := .slice A50 (doF x0 M1 m2).mem.length d50) rfl
  obtain ⟨hc45x1, gc45x1⟩ := kg45.at_ 1 (x := .slice B50 (doF x0 M1 m2).ths.length e50) rfl
  have l45 := kg45.lt
  go_wp2_with fail
  refine (eqMachine _ _ _ _ ((doF x0 M1 m2)) ((doF x0 M1 m2)) _ ho50.rd ho13''''''''''''''.rd).mono ?_
  rintro e w52 ⟨rfl, hb52⟩
  rw [decide_eq_true rfl]
  clear hc1x0 gc1x0 hc1x1 gc1x1 l1 hc2x0 gc2x0 hc2x1 gc2x1 l2 hc3x0 gc3x0 hc3x1 gc3x1 l3 hc8x0 gc8x0 hc8x1 gc8x1 l8 hc17x0 gc17x0 hc17x1 gc17x1 l17 hc20x0 gc20x0 hc20x1 gc20x1 l20 hc22x0 gc22x0 hc22x1 gc22x1 l22 hc45x0 gc45x0 hc45x1 gc45x1 l45
  have sz53 := hb52.size
  try simp only [World.size_alloc] at sz53
  have hB''''''''''''''''''''' := hB''''''''''''''''''''.trans (hb52.mono hB''''''''''''''''''''.size)
  clear hB''''''''''''''''''''
  have k1'''''''''''''''''''' := k1'''''''''''''''''''.below hb52 k1'''''''''''''''''''.lt
  clear k1'''''''''''''''''''
  have k2''''''''''''''''''' := k2''''''''''''''''''.below hb52 k2''''''''''''''''''.lt
  clear k2''''''''''''''''''
  have k3'''''''''''''''''' := k3'''''''''''''''''.below hb52 k3'''''''''''''''''.lt
  clear k3'''''''''''''''''
  have kg8''''''''''''''' := kg8''''''''''''''.below hb52 kg8''''''''''''''.lt
  clear kg8''''''''''''''
  have k17''''''''''''' := k17''''''''''''.below hb52 k17''''''''''''.lt
  clear k17''''''''''''
  have k20''''''''''' := k20''''''''''.below hb52 k20''''''''''.lt
  clear k20''''''''''
  have kg22'''''''''' := kg22'''''''''.below hb52 kg22'''''''''.lt
  clear kg22'''''''''
  have kg45' := kg45.below hb52 kg45.lt
  clear kg45
  have ho13''''''''''''''' := ho13''''''''''''''.below hb52
  clear ho13''''''''''''''
  have hq35'''''' := hq35'''''.below hb52
  clear hq35'''''
  have hq37''''' := hq37''''.below hb52
  clear hq37''''
  have hq41''' := hq41''.below hb52
  clear hq41''
  have ho50' := ho50.below hb52
  clear ho50
  obtain ⟨hc1x0, gc1x0⟩ := k1''''''''''''''''''''.at_ 0 (x := .int .i64 x0.c) rfl
  obtain ⟨hc1x1, gc1x1⟩ := k1''''''''''''''''''''.at_ 1 (x := .slice Aa0 x0.x.length da0) rfl
  have l1 := k1''''''''''''''''''''.lt
  obtain ⟨hc2x0, gc2x0⟩ := k2'''''''''''''''''''.at_ 0 (x := .slice Aa1 M1.mem.length da1) rfl
  obtain ⟨hc2x1, gc2x1⟩ := k2'''''''''''''''''''.at_ 1 (x := .slice Ba1 M1.ths.length ea1) rfl
  have l2 := k2'''''''''''''''''''.lt
  obtain ⟨hc3x0, gc3x0⟩ := k3''''''''''''''''''.at_ 0 (x := .int .i64 m2.t) rfl
  obtain ⟨hc3x1, gc3x1⟩ := k3''''''''''''''''''.at_ 1 (x := .bool m2.d) rfl
  have l3 := k3''''''''''''''''''.lt
  obtain ⟨hc8x0, gc8x0⟩ := kg8'''''''''''''''.at_ 0 (x := .slice A13 (doF x0 M1 m2).mem.length d13) rfl
  obtain ⟨hc8x1, gc8x1⟩ := kg8'''''''''''''''.at_ 1 (x := .slice B13 (doF x0 M1 m2).ths.length e13) rfl
  have l8 := kg8'''''''''''''''.lt
  obtain ⟨hc17x0, gc17x0⟩ := k17'''''''''''''.at_ 0 (x := .int .i64 x0.c) rfl
  obtain ⟨hc17x1, gc17x1⟩ := k17'''''''''''''.at_ 1 (x := .slice A15 x0.x.length d15) rfl
  have l17 := k17'''''''''''''.lt
  obtain ⟨hc20x0, gc20x0⟩ := k20'''''''''''.at_ 0 (x := .slice A18 M1.mem.length d18) rfl
  obtain ⟨hc20x1, gc20x1⟩ := k20'''''''''''.at_ 1 (x := .slice B18 M1.ths.length e18) rfl
  have l20 := k20'''''''''''.lt
  obtain ⟨hc22x0, gc22x0⟩ := kg22''''''''''.at_ 0 (x := .slice A25 (doF x0 M1 m2).mem.length d25) rfl
  obtain ⟨hc22x1, gc22x1⟩ := kg22''''''''''.at_ 1 (x := .slice B25 (doF x0 M1 m2).ths.length e25) rfl
  have l22 := kg22''''''''''.lt
  obtain ⟨hc45x0, gc45x0⟩ := kg45'.at_ 0 (x := .slice A50 (doF x0 M1 m2).mem.length d50) rfl
  obtain ⟨hc45x1, gc45x1⟩ := kg45'.at_ 1 (x := .slice B50 (doF x0 M1 m2).ths.length e50) rfl
  have l45 := kg45'.lt
  go_wp2_with fail
  refine (heldMachine _ _ (doF x0 M1 m2) (1) _ hq41'''.rd (by omega) (by omega) (by omega)).mono ?_
  rintro e w54 ⟨rfl, hb54⟩
  clear hc1x0 gc1x0 hc1x1 gc1x1 l1 hc2x0 gc2x0 hc2x1 gc2x1 l2 hc3x0 gc3x0 hc3x1 gc3x1 l3 hc8x0 gc8x0 hc8x1 gc8x1 l8 hc17x0 gc17x0 hc17x1 gc17x1 l17 hc20x0 gc20x0 hc20x1 gc20x1 l20 hc22x0 gc22x0 hc22x1 gc22x1 l22 hc45x0 gc45x0 hc45x1 gc45x1 l45
  have sz55 := hb54.size
  try simp only [World.size_alloc] at sz55
  have hB'''''''''''''''''''''' := hB'''''''''''''''''''''.trans (hb54.mono hB'''''''''''''''''''''.size)
  clear hB'''''''''''''''''''''
  have k1''''''''''''''''''''' := k1''''''''''''''''''''.below hb54 k1''''''''''''''''''''.lt
  clear k1''''''''''''''''''''
  have k2'''''''''''''''''''' := k2'''''''''''''''''''.below hb54 k2'''''''''''''''''''.lt
  clear k2'''''''''''''''''''
  have k3''''''''''''''''''' := k3''''''''''''''''''.below hb54 k3''''''''''''''''''.lt
  clear k3''''''''''''''''''
  have kg8'''''''''''''''' := kg8'''''''''''''''.below hb54 kg8'''''''''''''''.lt
  clear kg8'''''''''''''''
  have k17'''''''''''''' := k17'''''''''''''.below hb54 k17'''''''''''''.lt
  clear k17'''''''''''''
  have k20'''''''''''' := k20'''''''''''.below hb54 k20'''''''''''.lt
  clear k20'''''''''''
  have kg22''''''''''' := kg22''''''''''.below hb54 kg22''''''''''.lt
  clear kg22''''''''''
  have kg45'' := kg45'.below hb54 kg45'.lt
  clear kg45'
  have ho13'''''''''''''''' := ho13'''''''''''''''.below hb54
  clear ho13'''''''''''''''
  have hq35''''''' := hq35''''''.below hb54
  clear hq35''''''
  have hq37'''''' := hq37'''''.below hb54
  clear hq37'''''
  have hq41'''' := hq41'''.below hb54
  clear hq41'''
  have ho50'' := ho50'.below hb54
  clear ho50'
  obtain ⟨hc1x0, gc1x0⟩ := k1'''''''''''''''''''''.at_ 0 (x := .int .i64 x0.c) rfl
  obtain ⟨hc1x1, gc1x1⟩ := k1'''''''''''''''''''''.at_ 1 (x := .slice Aa0 x0.x.length da0) rfl
  have l1 := k1'''''''''''''''''''''.lt
  obtain ⟨hc2x0, gc2x0⟩ := k2''''''''''''''''''''.at_ 0 (x := .slice Aa1 M1.mem.length da1) rfl
  obtain ⟨hc2x1, gc2x1⟩ := k2''''''''''''''''''''.at_ 1 (x := .slice Ba1 M1.ths.length ea1) rfl
  have l2 := k2''''''''''''''''''''.lt
  obtain ⟨hc3x0, gc3x0⟩ := k3'''''''''''''''''''.at_ 0 (x := .int .i64 m2.t) rfl
  obtain ⟨hc3x1, gc3x1⟩ := k3'''''''''''''''''''.at_ 1 (x := .bool m2.d) rfl
  have l3 := k3'''''''''''''''''''.lt
  obtain ⟨hc8x0, gc8x0⟩ := kg8''''''''''''''''.at_ 0 (x := .slice A13 (doF x0 M1 m2).mem.length d13) rfl
  obtain ⟨hc8x1, gc8x1⟩ := kg8''''''''''''''''.at_ 1 (x := .slice B13 (doF x0 M1 m2).ths.length e13) rfl
  have l8 := kg8''''''''''''''''.lt
  obtain ⟨hc17x0, gc17x0⟩ := k17''''''''''''''.at_ 0 (x := .int .i64 x0.c) rfl
  obtain ⟨hc17x1, gc17x1⟩ := k17''''''''''''''.at_ 1 (x := .slice A15 x0.x.length d15) rfl
  have l17 := k17''''''''''''''.lt
  obtain ⟨hc20x0, gc20x0⟩ := k20''''''''''''.at_ 0 (x := .slice A18 M1.mem.length d18) rfl
  obtain ⟨hc20x1, gc20x1⟩ := k20''''''''''''.at_ 1 (x := .slice B18 M1.ths.length e18) rfl
  have l20 := k20''''''''''''.lt
  obtain ⟨hc22x0, gc22x0⟩ := kg22'''''''''''.at_ 0 (x := .slice A25 (doF x0 M1 m2).mem.length d25) rfl
  obtain ⟨hc22x1, gc22x1⟩ := kg22'''''''''''.at_ 1 (x := .slice B25 (doF x0 M1 m2).ths.length e25) rfl
  have l22 := kg22'''''''''''.lt
  obtain ⟨hc45x0, gc45x0⟩ := kg45''.at_ 0 (x := .slice A50 (doF x0 M1 m2).mem.length d50) rfl
  obtain ⟨hc45x1, gc45x1⟩ := kg45''.at_ 1 (x := .slice B50 (doF x0 M1 m2).ths.length e50) rfl
  have l45 := kg45''.lt
  go_wp2_with fail
  go_ret
  exact ⟨rfl, hB''''''''''''''''''''''⟩
set_option maxRecDepth 100000 in
theorem lift_DoMove (os : Os) (started : os.Started) (H : Type) (enc : TypeId × Value → H) :
    ReturnsInHanded {} Tryz.checked os 3 .any (Rows.fnExactDoMoveSpec.pre6 enc Tryz.prog Tryz.f3 Rows.fnExactDoMoveRow.domain false) (Rows.fnExactDoMoveSpec.post enc Tryz.prog Tryz.f3 false true false false) := by
  refine returnsInHanded_of_change (C := Tryz.checked) (by kernel_rfl) started (by kernel_rfl) Tryz.func3
    (ChangeSpec.witness6 (enc := enc) (C := Tryz.checked) false ⟨#[], #[.agg #[.int .i64 0, .slice none 0 0], .agg #[.slice none 0 0, .slice none 0 0], .agg #[.int .i64 0, .bool false]], []⟩ 8 (by kernel_rfl) (by kernel_rfl) (by kernel_rfl) (by kernel_rfl)) ?_
  intro W base args ds gs before hval0 hW hcnd _
  have hval : ∀ (j : Nat) t v, Tryz.f3.params[j]? = some t → args[j]? = some v → Value.okWide Tryz.prog W .any base t v := hval0
  have hW' := hW
  obtain ⟨p, q, hA0, hV, rfl, hfz, hnd⟩ := hW
  have hA : DataW.TrodAll enc Tryz.prog W 0 (fun _ => true) true Tryz.f3.params.toList args.toList ds p := hA0
  rw [Tryz.params3] at hA hval
  obtain ⟨v0, vs0, d0, ds0, p0, q0, hargs, rfl, rfl, h0, r0⟩ := trodAll_cons hA
  obtain ⟨v1, vs1, d1, ds1, p1, q1, rfl, rfl, rfl, h1, r1⟩ := trodAll_cons r0
  obtain ⟨v2, vs2, d2, ds2, p2, q2, rfl, rfl, rfl, h2, r2⟩ := trodAll_cons r1
  obtain ⟨rfl, rfl, rfl⟩ := trodAll_nil r2
  obtain rfl : args = #[v0, v1, v2] := by cases args; simp_all
  obtain ⟨rfl, rfl⟩ := trodVars_none hV
  obtain ⟨c0, x0, rfl, hR0⟩ := read_prog Tryz.underlying24 ⟨rfl, rfl⟩ ⟨rfl, rfl⟩ (by decide +kernel) (by kernel_rfl) Tryz.underlying3 Tryz.underlying22 (by kernel_rfl) Tryz.underlying110 Tryz.underlying150 (by kernel_rfl) ⟨rfl, rfl, rfl, rfl⟩ (by decide +kernel) ⟨Tryz.underlying3, Tryz.underlying3, Tryz.underlying3, Tryz.underlying3⟩ (hval 0 _ v0 rfl rfl) h0
  obtain ⟨c1, u1, M1, rfl, hR1, hI1⟩ := read_machine Tryz.underlying30 (by kernel_rfl) ⟨rfl, rfl⟩ (by decide +kernel) Tryz.underlying27 rfl (by kernel_rfl) Tryz.underlying25 Tryz.underlying3 (by kernel_rfl) Tryz.underlying28 thTypeL (hval 1 _ v1 rfl rfl) h1
  obtain ⟨x2, rfl, xw2⟩ := read_move Tryz.underlying32 (by kernel_rfl) ⟨rfl, rfl⟩ (by decide +kernel) ⟨Tryz.underlying3, Tryz.underlying4⟩ (hval 2 _ v2 rfl rfl) h2
  refine (walk_DoMove c0 x0 _ _ M1 x2 W hR0 hR1).mono fun e W' ⟨he, hb⟩ => ?_
  subst he
  exact ⟨_, rfl, post_law (by kernel_rfl) rfl rfl (by kernel_rfl) Tryz.underlying4 (of_decide_eq_true (by kernel_rfl)) hW' hb⟩
theorem FnExactDoMove_holds : Rows.FnExactDoMoveSaid :=
  OpenClaim.holds_of_wide 3 Tryz.f3 rfl rfl rfl rfl rfl rfl rfl ⟨rfl, rfl, rfl, rfl, rfl⟩ rfl rfl rfl rfl rfl (by kernel_rfl) Tryz.func3 (by kernel_rfl)
    (of_decide_eq_true (by kernel_rfl)) (by unfold Func.isWrapper; first | (rw [if_pos (by decide +kernel)]; kernel_rfl) | (rw [if_neg (by decide +kernel)]; exact ⟨rfl, rfl⟩))
    (fun os started H enc _ => lift_DoMove os started H enc)
#print axioms FnExactDoMove_holds
end Go.Proofs.YtiflooopfpcelaaGreat
