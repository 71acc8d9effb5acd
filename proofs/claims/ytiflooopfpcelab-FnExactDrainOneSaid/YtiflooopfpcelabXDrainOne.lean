/- FnExactDrainOne answers true at every input: DrainOne answers as its model does, leaves its arguments alone and owns its answer. Conditions: none. -/
import Derived.Test.YtiflooopfpcelabLaw
import Derived.Test.YtiflooopfpcelabLaw3
import Derived.Test.YtiflooopfpcelabB4
import Derived.Deep.RegionHeld3
namespace Go.Proofs.Ytiflooopfpcelab
set_option maxRecDepth 20000
set_option linter.unusedSimpArgs false
set_option linter.unusedVariables false
open Go.ChangeShapes Go.WideShapes Go.ChangeAt Go.RowKit
set_option linter.unusedVariables false
set_option maxHeartbeats 24000000 in
theorem walk_DrainOne (v0 : Value) (xs0 : List P2) (v1 : Value) (xs1 : List Int) (w : World) (hA0 : RdA w v0 2 xs0.length (flc2 xs0)) (hA1 : RdA w v1 1 xs1.length (ints xs1)) :
    Calls Try.prog 11 #[v0, .agg #[v1]] w fun e w' => e = .returned (.bool true) ∧ Below w.heap.size w w' := by
  obtain ⟨Aa0, da0, rfl, -, -, -, -⟩ := id hA0
  have HAaB := Lib.hid hA0
  clear hA0
  obtain ⟨Aa1, da1, rfl, -, -, -, -⟩ := id hA1
  have HAaM := Lib.hid hA1
  clear hA1
  have hq := drM_len xs0 xs1
  have hq1 : (drM xs0 xs1).length ≤ xs1.length ∧ xs1.length ≤ (drM xs0 xs1).length := by omega
  have hq2 := drB_len xs0 xs1
  clear hq
  have hB := Below.refl w.heap.size w
  go_enter Try.func11, Try.ntmps11
  go_wp2_with fail
  have hB' := hB.alloc hB.size (.cells #[.slice Aa1 xs1.length da1] 34)
  clear hB
  have k1 := Bk.new w #[.slice Aa1 xs1.length da1] 34
  refine (toB (szSlotS _ _ _ (1048576) _ (HAaB.out.below hB') (by omega) (by omega))).mono ?_
  rintro e w2 ⟨rfl, hb2⟩
  have sz3 := hb2.size
  try simp only [World.size_alloc] at sz3
  have hB'' := hB'.trans (hb2.mono hB'.size)
  clear hB'
  have k1' := k1.below hb2 k1.lt
  clear k1
  by_cases hn2 : (1048576 : Int) - xs0.length < 0
  · rw [show szF xs0.length (1048576) = -1 by unfold szF; rw [if_pos hn2]]
    go_wp2_with fail
    go_ret
    exact ⟨rfl, hB''⟩
  rw [show szF xs0.length (1048576) = 1048576 - xs0.length by unfold szF; rw [if_neg hn2]]
  obtain ⟨hc1x0, gc1x0⟩ := k1'.at_ 0 (x := .slice Aa1 xs1.length da1) rfl
  have l1 := k1'.lt
  go_wp2_with fail
  refine (szMem _ _ _ (1048576 - xs0.length) _ (HAaM.out.below hB'') (by omega) (by omega)).mono ?_
  rintro e w4 ⟨rfl, hb4⟩
  clear hc1x0 gc1x0 l1
  have sz5 := hb4.size
  try simp only [World.size_alloc] at sz5
  have hB''' := hB''.trans (hb4.mono hB''.size)
  clear hB''
  have k1'' := k1'.below hb4 k1'.lt
  clear k1'
  by_cases hn4 : (1048576 - xs0.length : Int) - xs1.length < 0
  · rw [show szF xs1.length (1048576 - xs0.length) = -1 by unfold szF; rw [if_pos hn4]]
    go_wp2_with fail
    go_ret
    exact ⟨rfl, hB'''⟩
  rw [show szF xs1.length (1048576 - xs0.length) = 1048576 - xs0.length - xs1.length by unfold szF; rw [if_neg hn4]]
  obtain ⟨hc1x0, gc1x0⟩ := k1''.at_ 0 (x := .slice Aa1 xs1.length da1) rfl
  have l1 := k1''.lt
  go_wp2_with fail
  clear hc1x0 gc1x0 l1
  obtain ⟨hc1x0, gc1x0⟩ := k1''.at_ 0 (x := .slice Aa1 xs1.length da1) rfl
  have l1 := k1''.lt
  have HS6 : Hid (∀ W : World, Below w4.heap.size w4 W → Below w4.heap.size w4 W ∧ W.cell? ⟨w.heap.size, 0, none⟩ = some (.slice Aa1 xs1.length da1)) := Lib.hid fun W hW => ⟨hW, (hW.cell (p := ⟨w.heap.size, 0, none⟩) k1''.lt).trans hc1x0⟩
  have KN6 : Hid (Bk ((w4.alloc (.cells #[.slice none 0 0] 26)).drew) w4.heap.size #[.slice none 0 0] 26) := Lib.hid (Bk.new w4 #[.slice none 0 0] 26)
  have HN6 : Hid (Below w4.heap.size w4 (w4.alloc (.cells #[.slice none 0 0] 26)).drew) := Lib.hid ((Below.refl _ w4).alloc (Nat.le_refl _) _).drew
  have HB6 := Lib.hid hB'''
  have nb6x1 : w.heap.size ≠ w4.heap.size := by have := k1''.lt; omega
  go_cut [6, 7, 8] (fun p6x0 p6x1 p6x2 wz => ∃ (A10 : Option Addr) (d10 : Nat) (bs10 : List Nat) (A11 : Option Addr) (d11 : Nat) (bs11 : List Nat) (g6 : Nat), p6x0 = .slice A10 (drB xs0 xs1).length d10 ∧ p6x1 = .pointer (some ⟨g6, 0, none⟩) ∧ p6x2 = .bool (drOk xs0 xs1) ∧ Own wz (.slice A10 (drB xs0 xs1).length d10) 2 (drB xs0 xs1).length (flc2 (drB xs0 xs1)) bs10 ∧ Own wz (.slice A11 (drM xs0 xs1).length d11) 1 (drM xs0 xs1).length (ints (drM xs0 xs1)) bs11 ∧ (∀ b ∈ bs10, w4.heap.size ≤ b) ∧ (∀ b ∈ bs11, w4.heap.size ≤ b) ∧ Bk wz g6 #[.slice A11 (drM xs0 xs1).length d11] 26 ∧ w4.heap.size ≤ g6 ∧ Below w4.heap.size w4 wz)
  case first =>
    go_region_held3 (fun W => Below w4.heap.size w4 W ∧ W.cell? ⟨w.heap.size, 0, none⟩ = some (.slice Aa1 xs1.length da1)) (first | (exact HS6.out _ (Below.refl _ _).drew) | (exact HS6.out _ HN6.out) | (exact HS6.out _ (hS6x0.alloc hS6x0.size _)) | (exact HS6.out _ (hS6x1.alloc hS6x1.size _)) | (exact HS6.out _ (hS6x2.alloc hS6x2.size _)) | (exact HS6.out _ (hS6x2.setCell (Nat.le_refl _) _)) | (exact HS6.out _ (hS6x2.setCell hS6x0.size _)) | (exact HS6.out _ (hS6x2.setCell hS6x1.size _)) | (exact HS6.out _ (hS6x2.setCell hS6x2.size _)) | (exact HS6.out _ (by assumption)))
      (first
        | (go_at_call 43; have hS := ‹Below w4.heap.size w4 _ ∧ _›.1; refine (toSlotS _ xs0 _ (HAaB.out.below (HB6.out.trans (hS.mono HB6.out.size))) (by omega)).mono ?_; rintro e w7 ⟨v7x0, bs7, rfl, ho7, lo7, hb7⟩; have hS6x0 := hS.trans (hb7.mono hS.size); clear hS; (first | (have q6x0 := KN6.out.below hb7 KN6.out.lt) | skip))
        | (go_at_call_of 24 (Value.agg #[Value.slice Aa1 xs1.length da1] : Value); have hS := ‹Below w4.heap.size w4 _ ∧ _›.1; refine (toMem _ xs1 _ (HAaM.out.below (HB6.out.trans (hS.mono HB6.out.size))) (by omega)).mono ?_; rintro e w8 ⟨v8x0, bs8, rfl, ho8, lo8, hb8⟩; have hS6x1 := hS.trans (hb8.mono hS.size); clear hS; (first | (have ho7 := ho7.below hb8) | (have ho7 := (ho7.below ((Below.refl _ w7).alloc (Nat.le_refl _) (.cells #[.slice none 0 0] 26))).below hb8)); (first | (have q6x1 := q6x0.below hb8 q6x0.lt) | (have q6x1 := (Bk.new w7 #[.slice none 0 0] 26).below hb8 (Bk.new w7 #[.slice none 0 0] 26).lt) | skip))
        | (go_at_call 50; have hS := ‹Below w4.heap.size w4 _ ∧ _›.1; refine (spec_DrainOne _ _ xs0 xs1 _ ho7.rd ho8.rd (by omega) (by omega)).mono ?_; rintro e w9 ⟨v10x0, bs10, v11x0, bs11, rfl, ho10, ho11, lo10, lo11, hb9⟩; have hS6x2 := hS.trans (hb9.mono hS.size); clear hS; obtain ⟨A10, d10, rfl, -, -⟩ := ho10.slice; obtain ⟨A11, d11, rfl, -, -⟩ := ho11.slice; (first | (have q6x2 := q6x1.below hb9 q6x1.lt) | (have q6x2 := (Bk.new w8 #[.slice none 0 0] 26).below hb9 (Bk.new w8 #[.slice none 0 0] 26).lt) | skip); try (obtain ⟨hq6, hg6⟩ := q6x2.at_ 0 (x := .slice none 0 0) rfl))
        | (go_at_call 50; have hS := ‹Below w4.heap.size w4 _ ∧ _›.1; refine (spec_DrainOne _ _ xs0 xs1 _ (ho7.below ((Below.refl _ w8).alloc (Nat.le_refl _) (.cells #[.slice none 0 0] 26))).rd (ho8.below ((Below.refl _ w8).alloc (Nat.le_refl _) (.cells #[.slice none 0 0] 26))).rd (by omega) (by omega)).mono ?_; rintro e w9 ⟨v10x0, bs10, v11x0, bs11, rfl, ho10, ho11, lo10, lo11, hb9⟩; have hS6x2 := hS.trans (hb9.mono hS.size); clear hS; obtain ⟨A10, d10, rfl, -, -⟩ := ho10.slice; obtain ⟨A11, d11, rfl, -, -⟩ := ho11.slice; (first | (have q6x2 := q6x1.below hb9 q6x1.lt) | (have q6x2 := (Bk.new w8 #[.slice none 0 0] 26).below hb9 (Bk.new w8 #[.slice none 0 0] 26).lt) | skip); try (obtain ⟨hq6, hg6⟩ := q6x2.at_ 0 (x := .slice none 0 0) rfl)))
    all_goals go_wp2_with fail
    all_goals go_meet
    all_goals (try have s6w7 := hS6x0.size)
    all_goals (try have s6w8 := hS6x1.size)
    all_goals (try have t6hb7 := hb7.size)
    all_goals (try simp at t6hb7)
    all_goals (try have t6hb8 := hb8.size)
    all_goals (try simp at t6hb8)
    all_goals (try have t6hb9 := hb9.size)
    all_goals (try simp at t6hb9)
    all_goals (first | exact ⟨A10, d10, bs10, A11, d11, bs11, _, rfl, rfl, rfl, ho10.below ((Below.refl _ _).alloc (Nat.le_refl _) _), ho11.below ((Below.refl _ _).alloc (Nat.le_refl _) _), fun b hb => Nat.le_trans (by first | omega | (simp; omega) | simp) (lo10 b hb), fun b hb => Nat.le_trans (by first | omega | (simp; omega) | simp) (lo11 b hb), Bk.new _ _ _, hS6x2.size, hS6x2.alloc hS6x2.size _⟩ | exact ⟨A10, d10, bs10, A11, d11, bs11, _, rfl, rfl, rfl, ho10.far (fun k hk => by have := lo10 k hk; (try simp only [World.size_alloc] at this); omega), ho11.far (fun k hk => by have := lo11 k hk; (try simp only [World.size_alloc] at this); omega), fun b hb => Nat.le_trans (by first | omega | (simp; omega) | simp) (lo10 b hb), fun b hb => Nat.le_trans (by first | omega | (simp; omega) | simp) (lo11 b hb), by simpa using q6x2.set_ 0 (.slice A11 (drM xs0 xs1).length d11), by first | exact Nat.le_refl _ | omega, hS6x2.setCell (by first | exact Nat.le_refl _ | (show w4.heap.size ≤ _; omega)) _⟩)
  obtain ⟨A10, d10, bs10, A11, d11, bs11, g6, rfl, rfl, rfl, ho10, ho11, lo10, lo11, kg6, hgl6, hBc6⟩ := hcut
  rename World => wc6
  have hgt6 := kg6.lt
  clear HS6 KN6 HN6 HB6 nb6x1
  clear hc1x0 gc1x0 l1
  have sz12 := hBc6.size
  try simp only [World.size_alloc] at sz12
  have hB'''' := hB'''.trans (hBc6.mono hB'''.size)
  clear hB'''
  have k1''' := k1''.below hBc6 k1''.lt
  clear k1''
  have hi10 := ho10.lt
  have hi11 := ho11.lt
  obtain ⟨hc1x0, gc1x0⟩ := k1'''.at_ 0 (x := .slice Aa1 xs1.length da1) rfl
  have l1 := k1'''.lt
  obtain ⟨hc6x0, gc6x0⟩ := kg6.at_ 0 (x := .slice A11 (drM xs0 xs1).length d11) rfl
  have l6 := kg6.lt
  go_wp2_with fail
  refine (toSlotS _ xs0 _ (HAaB.out.below hB'''') (by omega)).mono ?_
  rintro e w13 ⟨v13x0, bs13, rfl, ho13, lo13, hb13⟩
  clear hc1x0 gc1x0 l1 hc6x0 gc6x0 l6
  have sz14 := hb13.size
  try simp only [World.size_alloc] at sz14
  have hB''''' := hB''''.trans (hb13.mono hB''''.size)
  clear hB''''
  have k1'''' := k1'''.below hb13 k1'''.lt
  clear k1'''
  have kg6' := kg6.below hb13 kg6.lt
  clear kg6
  have ho10' := ho10.below hb13
  clear ho10
  have ho11' := ho11.below hb13
  clear ho11
  have hi13 := ho13.lt
  try simp only [World.size_alloc] at lo13
  obtain ⟨A13, d13, rfl, -, -⟩ := ho13.slice
  obtain ⟨hc1x0, gc1x0⟩ := k1''''.at_ 0 (x := .slice Aa1 xs1.length da1) rfl
  have l1 := k1''''.lt
  obtain ⟨hc6x0, gc6x0⟩ := kg6'.at_ 0 (x := .slice A11 (drM xs0 xs1).length d11) rfl
  have l6 := kg6'.lt
  go_wp2_with fail
  refine (toMem _ xs1 _ (HAaM.out.below hB''''') (by omega)).mono ?_
  rintro e w15 ⟨v15x0, bs15, rfl, ho15, lo15, hb15⟩
  clear hc1x0 gc1x0 l1 hc6x0 gc6x0 l6
  have sz16 := hb15.size
  try simp only [World.size_alloc] at sz16
  have hB'''''' := hB'''''.trans (hb15.mono hB'''''.size)
  clear hB'''''
  have k1''''' := k1''''.below hb15 k1''''.lt
  clear k1''''
  have kg6'' := kg6'.below hb15 kg6'.lt
  clear kg6'
  have ho10'' := ho10'.below hb15
  clear ho10'
  have ho11'' := ho11'.below hb15
  clear ho11'
  have ho13' := ho13.below hb15
  clear ho13
  have hi15 := ho15.lt
  try simp only [World.size_alloc] at lo15
  obtain ⟨A15, d15, rfl, -, -⟩ := ho15.slice
  obtain ⟨hc1x0, gc1x0⟩ := k1'''''.at_ 0 (x := .slice Aa1 xs1.length da1) rfl
  have l1 := k1'''''.lt
  obtain ⟨hc6x0, gc6x0⟩ := kg6''.at_ 0 (x := .slice A11 (drM xs0 xs1).length d11) rfl
  have l6 := kg6''.lt
  go_wp2_with fail
  clear hc1x0 gc1x0 l1 hc6x0 gc6x0 l6
  have k1'''''' := k1'''''.alloc (.cells #[.slice A15 xs1.length d15] 26)
  clear k1'''''
  have kg6''' := kg6''.alloc (.cells #[.slice A15 xs1.length d15] 26)
  clear kg6''
  have ho10''' := ho10''.below ((Below.refl _ _).alloc (Nat.le_refl _) (.cells #[.slice A15 xs1.length d15] 26))
  clear ho10''
  have ho11''' := ho11''.below ((Below.refl _ _).alloc (Nat.le_refl _) (.cells #[.slice A15 xs1.length d15] 26))
  clear ho11''
  have ho13'' := ho13'.below ((Below.refl _ _).alloc (Nat.le_refl _) (.cells #[.slice A15 xs1.length d15] 26))
  clear ho13'
  have ho15' := ho15.below ((Below.refl _ _).alloc (Nat.le_refl _) (.cells #[.slice A15 xs1.length d15] 26))
  clear ho15
  have hB''''''' := hB''''''.alloc hB''''''.size (.cells #[.slice A15 xs1.length d15] 26)
  clear hB''''''
  have k17 := Bk.new w15 #[.slice A15 xs1.length d15] 26
  refine (impl_DrainOne _ _ xs0 xs1 _ ho13''.rd ho15'.rd (by omega) (by omega)).mono ?_
  rintro e w20 ⟨v19x0, bs19, v20x0, bs20, mid18, rfl, ho19, ho20, lo19, mi18, lo20, hmid18, hb18⟩
  try simp only [World.size_alloc] at hmid18
  have sz21 := hb18.size
  try simp only [World.size_alloc] at sz21
  have hB'''''''' := hB'''''''.trans (hb18.mono hB'''''''.size)
  clear hB'''''''
  have k1''''''' := k1''''''.below hb18 k1''''''.lt
  clear k1''''''
  have kg6'''' := kg6'''.below hb18 kg6'''.lt
  clear kg6'''
  have k17' := k17.below hb18 k17.lt
  clear k17
  have ho10'''' := ho10'''.below hb18
  clear ho10'''
  have ho11'''' := ho11'''.below hb18
  clear ho11'''
  have ho13''' := ho13''.below hb18
  clear ho13''
  have ho15'' := ho15'.below hb18
  clear ho15'
  have hi19 := ho19.lt
  try simp only [World.size_alloc] at lo19
  obtain ⟨A19, d19, rfl, -, -⟩ := ho19.slice
  have hi20 := ho20.lt
  try simp only [World.size_alloc] at lo20
  obtain ⟨A20, d20, rfl, -, -⟩ := ho20.slice
  obtain ⟨hc1x0, gc1x0⟩ := k1'''''''.at_ 0 (x := .slice Aa1 xs1.length da1) rfl
  have l1 := k1'''''''.lt
  obtain ⟨hc6x0, gc6x0⟩ := kg6''''.at_ 0 (x := .slice A11 (drM xs0 xs1).length d11) rfl
  have l6 := kg6''''.lt
  obtain ⟨hc17x0, gc17x0⟩ := k17'.at_ 0 (x := .slice A15 xs1.length d15) rfl
  have l17 := k17'.lt
  go_wp2_with fail
  clear hc1x0 gc1x0 l1 hc6x0 gc6x0 l6 hc17x0 gc17x0 l17
  have k1'''''''' := k1'''''''.alloc (.cells #[.slice A20 (drM xs0 xs1).length d20] 26)
  clear k1'''''''
  have kg6''''' := kg6''''.alloc (.cells #[.slice A20 (drM xs0 xs1).length d20] 26)
  clear kg6''''
  have k17'' := k17'.alloc (.cells #[.slice A20 (drM xs0 xs1).length d20] 26)
  clear k17'
  have ho10''''' := ho10''''.below ((Below.refl _ _).alloc (Nat.le_refl _) (.cells #[.slice A20 (drM xs0 xs1).length d20] 26))
  clear ho10''''
  have ho11''''' := ho11''''.below ((Below.refl _ _).alloc (Nat.le_refl _) (.cells #[.slice A20 (drM xs0 xs1).length d20] 26))
  clear ho11''''
  have ho13'''' := ho13'''.below ((Below.refl _ _).alloc (Nat.le_refl _) (.cells #[.slice A20 (drM xs0 xs1).length d20] 26))
  clear ho13'''
  have ho15''' := ho15''.below ((Below.refl _ _).alloc (Nat.le_refl _) (.cells #[.slice A20 (drM xs0 xs1).length d20] 26))
  clear ho15''
  have ho19' := ho19.below ((Below.refl _ _).alloc (Nat.le_refl _) (.cells #[.slice A20 (drM xs0 xs1).length d20] 26))
  clear ho19
  have ho20' := ho20.below ((Below.refl _ _).alloc (Nat.le_refl _) (.cells #[.slice A20 (drM xs0 xs1).length d20] 26))
  clear ho20
  have hB''''''''' := hB''''''''.alloc hB''''''''.size (.cells #[.slice A20 (drM xs0 xs1).length d20] 26)
  clear hB''''''''
  have k22 := Bk.new w20 #[.slice A20 (drM xs0 xs1).length d20] 26
  refine (eqSlotS _ _ ((drB xs0 xs1)) ((drB xs0 xs1)) _ ho19'.rd ho10'''''.rd).mono ?_
  rintro e w23 ⟨rfl, hb23⟩
  rw [decide_eq_true rfl]
  have sz24 := hb23.size
  try simp only [World.size_alloc] at sz24
  have hB'''''''''' := hB'''''''''.trans (hb23.mono hB'''''''''.size)
  clear hB'''''''''
  have k1''''''''' := k1''''''''.below hb23 k1''''''''.lt
  clear k1''''''''
  have kg6'''''' := kg6'''''.below hb23 kg6'''''.lt
  clear kg6'''''
  have k17''' := k17''.below hb23 k17''.lt
  clear k17''
  have k22' := k22.below hb23 k22.lt
  clear k22
  have ho10'''''' := ho10'''''.below hb23
  clear ho10'''''
  have ho11'''''' := ho11'''''.below hb23
  clear ho11'''''
  have ho13''''' := ho13''''.below hb23
  clear ho13''''
  have ho15'''' := ho15'''.below hb23
  clear ho15'''
  have ho19'' := ho19'.below hb23
  clear ho19'
  have ho20'' := ho20'.below hb23
  clear ho20'
  obtain ⟨hc1x0, gc1x0⟩ := k1'''''''''.at_ 0 (x := .slice Aa1 xs1.length da1) rfl
  have l1 := k1'''''''''.lt
  obtain ⟨hc6x0, gc6x0⟩ := kg6''''''.at_ 0 (x := .slice A11 (drM xs0 xs1).length d11) rfl
  have l6 := kg6''''''.lt
  obtain ⟨hc17x0, gc17x0⟩ := k17'''.at_ 0 (x := .slice A15 xs1.length d15) rfl
  have l17 := k17'''.lt
  obtain ⟨hc22x0, gc22x0⟩ := k22'.at_ 0 (x := .slice A20 (drM xs0 xs1).length d20) rfl
  have l22 := k22'.lt
  go_wp2_with fail
  refine (eqMemB _ _ ((drM xs0 xs1)) ((drM xs0 xs1)) _ ho20''.rd ho11''''''.rd).mono ?_
  rintro e w25 ⟨rfl, hb25⟩
  rw [decide_eq_true rfl]
  clear hc1x0 gc1x0 l1 hc6x0 gc6x0 l6 hc17x0 gc17x0 l17 hc22x0 gc22x0 l22
  have sz26 := hb25.size
  try simp only [World.size_alloc] at sz26
  have hB''''''''''' := hB''''''''''.trans (hb25.mono hB''''''''''.size)
  clear hB''''''''''
  have k1'''''''''' := k1'''''''''.below hb25 k1'''''''''.lt
  clear k1'''''''''
  have kg6''''''' := kg6''''''.below hb25 kg6''''''.lt
  clear kg6''''''
  have k17'''' := k17'''.below hb25 k17'''.lt
  clear k17'''
  have k22'' := k22'.below hb25 k22'.lt
  clear k22'
  have ho10''''''' := ho10''''''.below hb25
  clear ho10''''''
  have ho11''''''' := ho11''''''.below hb25
  clear ho11''''''
  have ho13'''''' := ho13'''''.below hb25
  clear ho13'''''
  have ho15''''' := ho15''''.below hb25
  clear ho15''''
  have ho19''' := ho19''.below hb25
  clear ho19''
  have ho20''' := ho20''.below hb25
  clear ho20''
  obtain ⟨hc1x0, gc1x0⟩ := k1''''''''''.at_ 0 (x := .slice Aa1 xs1.length da1) rfl
  have l1 := k1''''''''''.lt
  obtain ⟨hc6x0, gc6x0⟩ := kg6'''''''.at_ 0 (x := .slice A11 (drM xs0 xs1).length d11) rfl
  have l6 := kg6'''''''.lt
  obtain ⟨hc17x0, gc17x0⟩ := k17''''.at_ 0 (x := .slice A15 xs1.length d15) rfl
  have l17 := k17''''.lt
  obtain ⟨hc22x0, gc22x0⟩ := k22''.at_ 0 (x := .slice A20 (drM xs0 xs1).length d20) rfl
  have l22 := k22''.lt
  go_wp2_with fail
  refine (toSlotS _ xs0 _ (HAaB.out.below hB''''''''''') (by omega)).mono ?_
  rintro e w27 ⟨v27x0, bs27, rfl, ho27, lo27, hb27⟩
  clear hc1x0 gc1x0 l1 hc6x0 gc6x0 l6 hc17x0 gc17x0 l17 hc22x0 gc22x0 l22
  have sz28 := hb27.size
  try simp only [World.size_alloc] at sz28
  have hB'''''''''''' := hB'''''''''''.trans (hb27.mono hB'''''''''''.size)
  clear hB'''''''''''
  have k1''''''''''' := k1''''''''''.below hb27 k1''''''''''.lt
  clear k1''''''''''
  have kg6'''''''' := kg6'''''''.below hb27 kg6'''''''.lt
  clear kg6'''''''
  have k17''''' := k17''''.below hb27 k17''''.lt
  clear k17''''
  have k22''' := k22''.below hb27 k22''.lt
  clear k22''
  have ho10'''''''' := ho10'''''''.below hb27
  clear ho10'''''''
  have ho11'''''''' := ho11'''''''.below hb27
  clear ho11'''''''
  have ho13''''''' := ho13''''''.below hb27
  clear ho13''''''
  have ho15'''''' := ho15'''''.below hb27
  clear ho15'''''
  have ho19'''' := ho19'''.below hb27
  clear ho19'''
  have ho20'''' := ho20'''.below hb27
  clear ho20'''
  have hi27 := ho27.lt
  try simp only [World.size_alloc] at lo27
  obtain ⟨A27, d27, rfl, -, -⟩ := ho27.slice
  obtain ⟨hc1x0, gc1x0⟩ := k1'''''''''''.at_ 0 (x := .slice Aa1 xs1.length da1) rfl
  have l1 := k1'''''''''''.lt
  obtain ⟨hc6x0, gc6x0⟩ := kg6''''''''.at_ 0 (x := .slice A11 (drM xs0 xs1).length d11) rfl
  have l6 := kg6''''''''.lt
  obtain ⟨hc17x0, gc17x0⟩ := k17'''''.at_ 0 (x := .slice A15 xs1.length d15) rfl
  have l17 := k17'''''.lt
  obtain ⟨hc22x0, gc22x0⟩ := k22'''.at_ 0 (x := .slice A20 (drM xs0 xs1).length d20) rfl
  have l22 := k22'''.lt
  go_wp2_with fail
  refine (eqSlotS _ _ (xs0) (xs0) _ ho13'''''''.rd ho27.rd).mono ?_
  rintro e w29 ⟨rfl, hb29⟩
  rw [decide_eq_true rfl]
  clear hc1x0 gc1x0 l1 hc6x0 gc6x0 l6 hc17x0 gc17x0 l17 hc22x0 gc22x0 l22
  have sz30 := hb29.size
  try simp only [World.size_alloc] at sz30
  have hB''''''''''''' := hB''''''''''''.trans (hb29.mono hB''''''''''''.size)
  clear hB''''''''''''
  have k1'''''''''''' := k1'''''''''''.below hb29 k1'''''''''''.lt
  clear k1'''''''''''
  have kg6''''''''' := kg6''''''''.below hb29 kg6''''''''.lt
  clear kg6''''''''
  have k17'''''' := k17'''''.below hb29 k17'''''.lt
  clear k17'''''
  have k22'''' := k22'''.below hb29 k22'''.lt
  clear k22'''
  have ho10''''''''' := ho10''''''''.below hb29
  clear ho10''''''''
  have ho11''''''''' := ho11''''''''.below hb29
  clear ho11''''''''
  have ho13'''''''' := ho13'''''''.below hb29
  clear ho13'''''''
  have ho15''''''' := ho15''''''.below hb29
  clear ho15''''''
  have ho19''''' := ho19''''.below hb29
  clear ho19''''
  have ho20''''' := ho20''''.below hb29
  clear ho20''''
  have ho27' := ho27.below hb29
  clear ho27
  obtain ⟨hc1x0, gc1x0⟩ := k1''''''''''''.at_ 0 (x := .slice Aa1 xs1.length da1) rfl
  have l1 := k1''''''''''''.lt
  obtain ⟨hc6x0, gc6x0⟩ := kg6'''''''''.at_ 0 (x := .slice A11 (drM xs0 xs1).length d11) rfl
  have l6 := kg6'''''''''.lt
  obtain ⟨hc17x0, gc17x0⟩ := k17''''''.at_ 0 (x := .slice A15 xs1.length d15) rfl
  have l17 := k17''''''.lt
  obtain ⟨hc22x0, gc22x0⟩ := k22''''.at_ 0 (x := .slice A20 (drM xs0 xs1).length d20) rfl
  have l22 := k22''''.lt
  go_wp2_with fail
  clear hc1x0 gc1x0 l1 hc6x0 gc6x0 l6 hc17x0 gc17x0 l17 hc22x0 gc22x0 l22
  obtain ⟨hc1x0, gc1x0⟩ := k1''''''''''''.at_ 0 (x := .slice Aa1 xs1.length da1) rfl
  have l1 := k1''''''''''''.lt
  obtain ⟨hc6x0, gc6x0⟩ := kg6'''''''''.at_ 0 (x := .slice A11 (drM xs0 xs1).length d11) rfl
  have l6 := kg6'''''''''.lt
  obtain ⟨hc17x0, gc17x0⟩ := k17''''''.at_ 0 (x := .slice A15 xs1.length d15) rfl
  have l17 := k17''''''.lt
  obtain ⟨hc22x0, gc22x0⟩ := k22''''.at_ 0 (x := .slice A20 (drM xs0 xs1).length d20) rfl
  have l22 := k22''''.lt
  have HS32 : Hid (∀ W : World, Below w29.heap.size w29 W → Below w29.heap.size w29 W ∧ W.cell? ⟨w15.heap.size, 0, none⟩ = some (.slice A15 xs1.length d15) ∧ W.cell? ⟨w.heap.size, 0, none⟩ = some (.slice Aa1 xs1.length da1)) := Lib.hid fun W hW => ⟨hW, (hW.cell (p := ⟨w15.heap.size, 0, none⟩) k17''''''.lt).trans hc17x0, (hW.cell (p := ⟨w.heap.size, 0, none⟩) k1''''''''''''.lt).trans hc1x0⟩
  have HhB_____________ := Lib.hid hB'''''''''''''
  have Hho10_________ := Lib.hid ho10'''''''''
  have Hho11_________ := Lib.hid ho11'''''''''
  have Hho13________ := Lib.hid ho13''''''''
  have Hho15_______ := Lib.hid ho15'''''''
  have Hho19_____ := Lib.hid ho19'''''
  have Hho20_____ := Lib.hid ho20'''''
  have Hho27_ := Lib.hid ho27'
  go_region_held3 (fun W => Below w29.heap.size w29 W ∧ W.cell? ⟨w15.heap.size, 0, none⟩ = some (.slice A15 xs1.length d15) ∧ W.cell? ⟨w.heap.size, 0, none⟩ = some (.slice Aa1 xs1.length da1)) (first | (exact HS32.out _ (Below.refl _ _).drew) | (exact HS32.out _ (by assumption)))
    (first
      | (go_at_call 24; have hS := ‹Below w29.heap.size w29 _ ∧ _›.1; refine (toMem _ xs1 _ (HAaM.out.below (HhB_____________.out.trans (hS.mono HhB_____________.out.size))) (by omega)).mono ?_; rintro e wa31 ⟨vv0, bsw, rfl, how, low, hbw31⟩; have HO31 := Lib.hid how; clear how low; have hS32x0 := hS.trans (hbw31.mono hS.size); clear hS)
      | (go_at_call 25; have hS := ‹Below w29.heap.size w29 _ ∧ _›.1; refine (eqMemB _ _ (xs1) (xs1) _ (Hho15_______.out.below hS).rd HO31.out.rd).mono ?_; rintro e w31 ⟨rfl, hbe31⟩; have hS32x1 := hS.trans (hbe31.mono hS.size); clear hS))
  have hS32 := ‹Below w29.heap.size w29 _ ∧ _›.1
  clear HS32 HhB_____________ Hho10_________ Hho11_________ Hho13________ Hho15_______ Hho19_____ Hho20_____ Hho27_
  clear hc1x0 gc1x0 l1 hc6x0 gc6x0 l6 hc17x0 gc17x0 l17 hc22x0 gc22x0 l22
  have sz33 := hS32.size
  try simp only [World.size_alloc] at sz33
  have hB'''''''''''''' := hB'''''''''''''.trans (hS32.mono hB'''''''''''''.size)
  clear hB'''''''''''''
  have k1''''''''''''' := k1''''''''''''.below hS32 k1''''''''''''.lt
  clear k1''''''''''''
  have kg6'''''''''' := kg6'''''''''.below hS32 kg6'''''''''.lt
  clear kg6'''''''''
  have k17''''''' := k17''''''.below hS32 k17''''''.lt
  clear k17''''''
  have k22''''' := k22''''.below hS32 k22''''.lt
  clear k22''''
  have ho10'''''''''' := ho10'''''''''.below hS32
  clear ho10'''''''''
  have ho11'''''''''' := ho11'''''''''.below hS32
  clear ho11'''''''''
  have ho13''''''''' := ho13''''''''.below hS32
  clear ho13''''''''
  have ho15'''''''' := ho15'''''''.below hS32
  clear ho15'''''''
  have ho19'''''' := ho19'''''.below hS32
  clear ho19'''''
  have ho20'''''' := ho20'''''.below hS32
  clear ho20'''''
  have ho27'' := ho27'.below hS32
  clear ho27'
  clear hS32
  clear HO31
  obtain ⟨hc1x0, gc1x0⟩ := k1'''''''''''''.at_ 0 (x := .slice Aa1 xs1.length da1) rfl
  have l1 := k1'''''''''''''.lt
  obtain ⟨hc6x0, gc6x0⟩ := kg6''''''''''.at_ 0 (x := .slice A11 (drM xs0 xs1).length d11) rfl
  have l6 := kg6''''''''''.lt
  obtain ⟨hc17x0, gc17x0⟩ := k17'''''''.at_ 0 (x := .slice A15 xs1.length d15) rfl
  have l17 := k17'''''''.lt
  obtain ⟨hc22x0, gc22x0⟩ := k22'''''.at_ 0 (x := .slice A20 (drM xs0 xs1).length d20) rfl
  have l22 := k22'''''.lt
  go_wp2_with fail
  refine (markSlotS _ _ xs0.length bs13 (1) _ ho13''''''''' (by omega) (by omega) (by omega)).mono ?_
  rintro e w34 ⟨rfl, hq34, hon34⟩
  clear hc1x0 gc1x0 l1 hc6x0 gc6x0 l6 hc17x0 gc17x0 l17 hc22x0 gc22x0 l22
  have sz35 := hon34.size
  try simp only [World.size_alloc] at sz35
  have hB''''''''''''''' := hB''''''''''''''.trans (hon34.below hB''''''''''''''.size (fun b hb => by have := lo13 b hb; omega))
  clear hB''''''''''''''
  have k1'''''''''''''' := k1'''''''''''''.only hon34 (fun hm => by have := lo13 _ hm; have := hi13 _ hm; omega)
  clear k1'''''''''''''
  have kg6''''''''''' := kg6''''''''''.only hon34 (fun hm => by have := lo13 _ hm; have := hi13 _ hm; omega)
  clear kg6''''''''''
  have k17'''''''' := k17'''''''.only hon34 (fun hm => by have := lo13 _ hm; have := hi13 _ hm; omega)
  clear k17'''''''
  have k22'''''' := k22'''''.only hon34 (fun hm => by have := lo13 _ hm; have := hi13 _ hm; omega)
  clear k22'''''
  have ho10''''''''''' := ho10''''''''''.only hon34 (fun b hb hm => by have := lo13 b hm; have := hi13 b hm; have := lo10 b hb; have := hi10 b hb; omega)
  clear ho10''''''''''
  have ho11''''''''''' := ho11''''''''''.only hon34 (fun b hb hm => by have := lo13 b hm; have := hi13 b hm; have := lo11 b hb; have := hi11 b hb; omega)
  clear ho11''''''''''
  have ho15''''''''' := ho15''''''''.only hon34 (fun b hb hm => by have := lo13 b hm; have := hi13 b hm; have := lo15 b hb; have := hi15 b hb; omega)
  clear ho15''''''''
  have ho19''''''' := ho19''''''.only hon34 (fun b hb hm => by have := mi18 b hb; have := lo13 b hm; have := hi13 b hm; have := lo19 b hb; have := hi19 b hb; omega)
  clear ho19''''''
  have ho20''''''' := ho20''''''.only hon34 (fun b hb hm => by have := lo13 b hm; have := hi13 b hm; have := lo20 b hb; have := hi20 b hb; omega)
  clear ho20''''''
  have ho27''' := ho27''.only hon34 (fun b hb hm => by have := lo13 b hm; have := hi13 b hm; have := lo27 b hb; have := hi27 b hb; omega)
  clear ho27''
  obtain ⟨hc1x0, gc1x0⟩ := k1''''''''''''''.at_ 0 (x := .slice Aa1 xs1.length da1) rfl
  have l1 := k1''''''''''''''.lt
  obtain ⟨hc6x0, gc6x0⟩ := kg6'''''''''''.at_ 0 (x := .slice A11 (drM xs0 xs1).length d11) rfl
  have l6 := kg6'''''''''''.lt
  obtain ⟨hc17x0, gc17x0⟩ := k17''''''''.at_ 0 (x := .slice A15 xs1.length d15) rfl
  have l17 := k17''''''''.lt
  obtain ⟨hc22x0, gc22x0⟩ := k22''''''.at_ 0 (x := .slice A20 (drM xs0 xs1).length d20) rfl
  have l22 := k22''''''.lt
  go_wp2_with fail
  refine (markMem _ xs1 bs15 (1 + (xs0.length : Int) * 2) _ ho15''''''''' (by omega) (by omega) (by omega)).mono ?_
  rintro e w36 ⟨rfl, hq36, hon36⟩
  clear hc1x0 gc1x0 l1 hc6x0 gc6x0 l6 hc17x0 gc17x0 l17 hc22x0 gc22x0 l22
  have sz37 := hon36.size
  try simp only [World.size_alloc] at sz37
  have hB'''''''''''''''' := hB'''''''''''''''.trans (hon36.below hB'''''''''''''''.size (fun b hb => by have := lo15 b hb; omega))
  clear hB'''''''''''''''
  have k1''''''''''''''' := k1''''''''''''''.only hon36 (fun hm => by have := lo15 _ hm; have := hi15 _ hm; omega)
  clear k1''''''''''''''
  have kg6'''''''''''' := kg6'''''''''''.only hon36 (fun hm => by have := lo15 _ hm; have := hi15 _ hm; omega)
  clear kg6'''''''''''
  have k17''''''''' := k17''''''''.only hon36 (fun hm => by have := lo15 _ hm; have := hi15 _ hm; omega)
  clear k17''''''''
  have k22''''''' := k22''''''.only hon36 (fun hm => by have := lo15 _ hm; have := hi15 _ hm; omega)
  clear k22''''''
  have ho10'''''''''''' := ho10'''''''''''.only hon36 (fun b hb hm => by have := lo15 b hm; have := hi15 b hm; have := lo10 b hb; have := hi10 b hb; omega)
  clear ho10'''''''''''
  have ho11'''''''''''' := ho11'''''''''''.only hon36 (fun b hb hm => by have := lo15 b hm; have := hi15 b hm; have := lo11 b hb; have := hi11 b hb; omega)
  clear ho11'''''''''''
  have hq34' := hq34.only hon36 (fun b hb hm => by have := lo15 b hm; have := hi15 b hm; have := lo13 b hb; have := hi13 b hb; omega)
  clear hq34
  have ho19'''''''' := ho19'''''''.only hon36 (fun b hb hm => by have := mi18 b hb; have := lo15 b hm; have := hi15 b hm; have := lo19 b hb; have := hi19 b hb; omega)
  clear ho19'''''''
  have ho20'''''''' := ho20'''''''.only hon36 (fun b hb hm => by have := lo15 b hm; have := hi15 b hm; have := lo20 b hb; have := hi20 b hb; omega)
  clear ho20'''''''
  have ho27'''' := ho27'''.only hon36 (fun b hb hm => by have := lo15 b hm; have := hi15 b hm; have := lo27 b hb; have := hi27 b hb; omega)
  clear ho27'''
  obtain ⟨hc1x0, gc1x0⟩ := k1'''''''''''''''.at_ 0 (x := .slice Aa1 xs1.length da1) rfl
  have l1 := k1'''''''''''''''.lt
  obtain ⟨hc6x0, gc6x0⟩ := kg6''''''''''''.at_ 0 (x := .slice A11 (drM xs0 xs1).length d11) rfl
  have l6 := kg6''''''''''''.lt
  obtain ⟨hc17x0, gc17x0⟩ := k17'''''''''.at_ 0 (x := .slice A15 xs1.length d15) rfl
  have l17 := k17'''''''''.lt
  obtain ⟨hc22x0, gc22x0⟩ := k22'''''''.at_ 0 (x := .slice A20 (drM xs0 xs1).length d20) rfl
  have l22 := k22'''''''.lt
  go_wp2_with fail
  refine (eqSlotS _ _ ((drB xs0 xs1)) ((drB xs0 xs1)) _ ho19''''''''.rd ho10''''''''''''.rd).mono ?_
  rintro e w38 ⟨rfl, hb38⟩
  rw [decide_eq_true rfl]
  clear hc1x0 gc1x0 l1 hc6x0 gc6x0 l6 hc17x0 gc17x0 l17 hc22x0 gc22x0 l22
  have sz39 := hb38.size
  try simp only [World.size_alloc] at sz39
  have hB''''''''''''''''' := hB''''''''''''''''.trans (hb38.mono hB''''''''''''''''.size)
  clear hB''''''''''''''''
  have k1'''''''''''''''' := k1'''''''''''''''.below hb38 k1'''''''''''''''.lt
  clear k1'''''''''''''''
  have kg6''''''''''''' := kg6''''''''''''.below hb38 kg6''''''''''''.lt
  clear kg6''''''''''''
  have k17'''''''''' := k17'''''''''.below hb38 k17'''''''''.lt
  clear k17'''''''''
  have k22'''''''' := k22'''''''.below hb38 k22'''''''.lt
  clear k22'''''''
  have ho10''''''''''''' := ho10''''''''''''.below hb38
  clear ho10''''''''''''
  have ho11''''''''''''' := ho11''''''''''''.below hb38
  clear ho11''''''''''''
  have hq34'' := hq34'.below hb38
  clear hq34'
  have hq36' := hq36.below hb38
  clear hq36
  have ho19''''''''' := ho19''''''''.below hb38
  clear ho19''''''''
  have ho20''''''''' := ho20''''''''.below hb38
  clear ho20''''''''
  have ho27''''' := ho27''''.below hb38
  clear ho27''''
  obtain ⟨hc1x0, gc1x0⟩ := k1''''''''''''''''.at_ 0 (x := .slice Aa1 xs1.length da1) rfl
  have l1 := k1''''''''''''''''.lt
  obtain ⟨hc6x0, gc6x0⟩ := kg6'''''''''''''.at_ 0 (x := .slice A11 (drM xs0 xs1).length d11) rfl
  have l6 := kg6'''''''''''''.lt
  obtain ⟨hc17x0, gc17x0⟩ := k17''''''''''.at_ 0 (x := .slice A15 xs1.length d15) rfl
  have l17 := k17''''''''''.lt
  obtain ⟨hc22x0, gc22x0⟩ := k22''''''''.at_ 0 (x := .slice A20 (drM xs0 xs1).length d20) rfl
  have l22 := k22''''''''.lt
  go_wp2_with fail
  refine (eqMemB _ _ ((drM xs0 xs1)) ((drM xs0 xs1)) _ ho20'''''''''.rd ho11'''''''''''''.rd).mono ?_
  rintro e w40 ⟨rfl, hb40⟩
  rw [decide_eq_true rfl]
  clear hc1x0 gc1x0 l1 hc6x0 gc6x0 l6 hc17x0 gc17x0 l17 hc22x0 gc22x0 l22
  have sz41 := hb40.size
  try simp only [World.size_alloc] at sz41
  have hB'''''''''''''''''' := hB'''''''''''''''''.trans (hb40.mono hB'''''''''''''''''.size)
  clear hB'''''''''''''''''
  have k1''''''''''''''''' := k1''''''''''''''''.below hb40 k1''''''''''''''''.lt
  clear k1''''''''''''''''
  have kg6'''''''''''''' := kg6'''''''''''''.below hb40 kg6'''''''''''''.lt
  clear kg6'''''''''''''
  have k17''''''''''' := k17''''''''''.below hb40 k17''''''''''.lt
  clear k17''''''''''
  have k22''''''''' := k22''''''''.below hb40 k22''''''''.lt
  clear k22''''''''
  have ho10'''''''''''''' := ho10'''''''''''''.below hb40
  clear ho10'''''''''''''
  have ho11'''''''''''''' := ho11'''''''''''''.below hb40
  clear ho11'''''''''''''
  have hq34''' := hq34''.below hb40
  clear hq34''
  have hq36'' := hq36'.below hb40
  clear hq36'
  have ho19'''''''''' := ho19'''''''''.below hb40
  clear ho19'''''''''
  have ho20'''''''''' := ho20'''''''''.below hb40
  clear ho20'''''''''
  have ho27'''''' := ho27'''''.below hb40
  clear ho27'''''
  obtain ⟨hc1x0, gc1x0⟩ := k1'''''''''''''''''.at_ 0 (x := .slice Aa1 xs1.length da1) rfl
  have l1 := k1'''''''''''''''''.lt
  obtain ⟨hc6x0, gc6x0⟩ := kg6''''''''''''''.at_ 0 (x := .slice A11 (drM xs0 xs1).length d11) rfl
  have l6 := kg6''''''''''''''.lt
  obtain ⟨hc17x0, gc17x0⟩ := k17'''''''''''.at_ 0 (x := .slice A15 xs1.length d15) rfl
  have l17 := k17'''''''''''.lt
  obtain ⟨hc22x0, gc22x0⟩ := k22'''''''''.at_ 0 (x := .slice A20 (drM xs0 xs1).length d20) rfl
  have l22 := k22'''''''''.lt
  go_wp2_with fail
  refine (markSlotS _ _ (drB xs0 xs1).length bs19 (1) _ ho19'''''''''' (by omega) (by omega) (by omega)).mono ?_
  rintro e w42 ⟨rfl, hq42, hon42⟩
  clear hc1x0 gc1x0 l1 hc6x0 gc6x0 l6 hc17x0 gc17x0 l17 hc22x0 gc22x0 l22
  have sz43 := hon42.size
  try simp only [World.size_alloc] at sz43
  have hB''''''''''''''''''' := hB''''''''''''''''''.trans (hon42.below hB''''''''''''''''''.size (fun b hb => by have := lo19 b hb; omega))
  clear hB''''''''''''''''''
  have k1'''''''''''''''''' := k1'''''''''''''''''.only hon42 (fun hm => by have := lo19 _ hm; have := hi19 _ hm; omega)
  clear k1'''''''''''''''''
  have kg6''''''''''''''' := kg6''''''''''''''.only hon42 (fun hm => by have := lo19 _ hm; have := hi19 _ hm; omega)
  clear kg6''''''''''''''
  have k17'''''''''''' := k17'''''''''''.only hon42 (fun hm => by have := lo19 _ hm; have := hi19 _ hm; omega)
  clear k17'''''''''''
  have k22'''''''''' := k22'''''''''.only hon42 (fun hm => by have := lo19 _ hm; have := hi19 _ hm; omega)
  clear k22'''''''''
  have ho10''''''''''''''' := ho10''''''''''''''.only hon42 (fun b hb hm => by have := mi18 b hm; have := lo19 b hm; have := hi19 b hm; have := lo10 b hb; have := hi10 b hb; omega)
  clear ho10''''''''''''''
  have ho11''''''''''''''' := ho11''''''''''''''.only hon42 (fun b hb hm => by have := mi18 b hm; have := lo19 b hm; have := hi19 b hm; have := lo11 b hb; have := hi11 b hb; omega)
  clear ho11''''''''''''''
  have hq34'''' := hq34'''.only hon42 (fun b hb hm => by have := mi18 b hm; have := lo19 b hm; have := hi19 b hm; have := lo13 b hb; have := hi13 b hb; omega)
  clear hq34'''
  have hq36''' := hq36''.only hon42 (fun b hb hm => by have := mi18 b hm; have := lo19 b hm; have := hi19 b hm; have := lo15 b hb; have := hi15 b hb; omega)
  clear hq36''
  have ho20''''''''''' := ho20''''''''''.only hon42 (fun b hb hm => by have := mi18 b hm; have := lo19 b hm; have := hi19 b hm; have := lo20 b hb; have := hi20 b hb; omega)
  clear ho20''''''''''
  have ho27''''''' := ho27''''''.only hon42 (fun b hb hm => by have := mi18 b hm; have := lo19 b hm; have := hi19 b hm; have := lo27 b hb; have := hi27 b hb; omega)
  clear ho27''''''
  obtain ⟨hc1x0, gc1x0⟩ := k1''''''''''''''''''.at_ 0 (x := .slice Aa1 xs1.length da1) rfl
  have l1 := k1''''''''''''''''''.lt
  obtain ⟨hc6x0, gc6x0⟩ := kg6'''''''''''''''.at_ 0 (x := .slice A11 (drM xs0 xs1).length d11) rfl
  have l6 := kg6'''''''''''''''.lt
  obtain ⟨hc17x0, gc17x0⟩ := k17''''''''''''.at_ 0 (x := .slice A15 xs1.length d15) rfl
  have l17 := k17''''''''''''.lt
  obtain ⟨hc22x0, gc22x0⟩ := k22''''''''''.at_ 0 (x := .slice A20 (drM xs0 xs1).length d20) rfl
  have l22 := k22''''''''''.lt
  go_wp2_with fail
  refine (markMem _ (drM xs0 xs1) bs20 (1 + ((drB xs0 xs1).length : Int) * 2) _ ho20''''''''''' (by omega) (by omega) (by omega)).mono ?_
  rintro e w44 ⟨rfl, hq44, hon44⟩
  clear hc1x0 gc1x0 l1 hc6x0 gc6x0 l6 hc17x0 gc17x0 l17 hc22x0 gc22x0 l22
  have sz45 := hon44.size
  try simp only [World.size_alloc] at sz45
  have hB'''''''''''''''''''' := hB'''''''''''''''''''.trans (hon44.below hB'''''''''''''''''''.size (fun b hb => by have := lo20 b hb; omega))
  clear hB'''''''''''''''''''
  have k1''''''''''''''''''' := k1''''''''''''''''''.only hon44 (fun hm => by have := lo20 _ hm; have := hi20 _ hm; omega)
  clear k1''''''''''''''''''
  have kg6'''''''''''''''' := kg6'''''''''''''''.only hon44 (fun hm => by have := lo20 _ hm; have := hi20 _ hm; omega)
  clear kg6'''''''''''''''
  have k17''''''''''''' := k17''''''''''''.only hon44 (fun hm => by have := lo20 _ hm; have := hi20 _ hm; omega)
  clear k17''''''''''''
  have k22''''''''''' := k22''''''''''.only hon44 (fun hm => by have := lo20 _ hm; have := hi20 _ hm; omega)
  clear k22''''''''''
  have ho10'''''''''''''''' := ho10'''''''''''''''.only hon44 (fun b hb hm => by have := lo20 b hm; have := hi20 b hm; have := lo10 b hb; have := hi10 b hb; omega)
  clear ho10'''''''''''''''
  have ho11'''''''''''''''' := ho11'''''''''''''''.only hon44 (fun b hb hm => by have := lo20 b hm; have := hi20 b hm; have := lo11 b hb; have := hi11 b hb; omega)
  clear ho11'''''''''''''''
  have hq34''''' := hq34''''.only hon44 (fun b hb hm => by have := lo20 b hm; have := hi20 b hm; have := lo13 b hb; have := hi13 b hb; omega)
  clear hq34''''
  have hq36'''' := hq36'''.only hon44 (fun b hb hm => by have := lo20 b hm; have := hi20 b hm; have := lo15 b hb; have := hi15 b hb; omega)
  clear hq36'''
  have hq42' := hq42.only hon44 (fun b hb hm => by have := mi18 b hb; have := lo20 b hm; have := hi20 b hm; have := lo19 b hb; have := hi19 b hb; omega)
  clear hq42
  have ho27'''''''' := ho27'''''''.only hon44 (fun b hb hm => by have := lo20 b hm; have := hi20 b hm; have := lo27 b hb; have := hi27 b hb; omega)
  clear ho27'''''''
  obtain ⟨hc1x0, gc1x0⟩ := k1'''''''''''''''''''.at_ 0 (x := .slice Aa1 xs1.length da1) rfl
  have l1 := k1'''''''''''''''''''.lt
  obtain ⟨hc6x0, gc6x0⟩ := kg6''''''''''''''''.at_ 0 (x := .slice A11 (drM xs0 xs1).length d11) rfl
  have l6 := kg6''''''''''''''''.lt
  obtain ⟨hc17x0, gc17x0⟩ := k17'''''''''''''.at_ 0 (x := .slice A15 xs1.length d15) rfl
  have l17 := k17'''''''''''''.lt
  obtain ⟨hc22x0, gc22x0⟩ := k22'''''''''''.at_ 0 (x := .slice A20 (drM xs0 xs1).length d20) rfl
  have l22 := k22'''''''''''.lt
  go_wp2_with fail
  refine (heldSlotSB _ (drB xs0 xs1).length _ _ hq42'.rd (by omega) (by omega) (by omega)).mono ?_
  rintro e w46 ⟨rfl, hb46⟩
  clear hc1x0 gc1x0 l1 hc6x0 gc6x0 l6 hc17x0 gc17x0 l17 hc22x0 gc22x0 l22
  have sz47 := hb46.size
  try simp only [World.size_alloc] at sz47
  have hB''''''''''''''''''''' := hB''''''''''''''''''''.trans (hb46.mono hB''''''''''''''''''''.size)
  clear hB''''''''''''''''''''
  have k1'''''''''''''''''''' := k1'''''''''''''''''''.below hb46 k1'''''''''''''''''''.lt
  clear k1'''''''''''''''''''
  have kg6''''''''''''''''' := kg6''''''''''''''''.below hb46 kg6''''''''''''''''.lt
  clear kg6''''''''''''''''
  have k17'''''''''''''' := k17'''''''''''''.below hb46 k17'''''''''''''.lt
  clear k17'''''''''''''
  have k22'''''''''''' := k22'''''''''''.below hb46 k22'''''''''''.lt
  clear k22'''''''''''
  have ho10''''''''''''''''' := ho10''''''''''''''''.below hb46
  clear ho10''''''''''''''''
  have ho11''''''''''''''''' := ho11''''''''''''''''.below hb46
  clear ho11''''''''''''''''
  have hq34'''''' := hq34'''''.below hb46
  clear hq34'''''
  have hq36''''' := hq36''''.below hb46
  clear hq36''''
  have hq42'' := hq42'.below hb46
  clear hq42'
  have hq44' := hq44.below hb46
  clear hq44
  have ho27''''''''' := ho27''''''''.below hb46
  clear ho27''''''''
  obtain ⟨hc1x0, gc1x0⟩ := k1''''''''''''''''''''.at_ 0 (x := .slice Aa1 xs1.length da1) rfl
  have l1 := k1''''''''''''''''''''.lt
  obtain ⟨hc6x0, gc6x0⟩ := kg6'''''''''''''''''.at_ 0 (x := .slice A11 (drM xs0 xs1).length d11) rfl
  have l6 := kg6'''''''''''''''''.lt
  obtain ⟨hc17x0, gc17x0⟩ := k17''''''''''''''.at_ 0 (x := .slice A15 xs1.length d15) rfl
  have l17 := k17''''''''''''''.lt
  obtain ⟨hc22x0, gc22x0⟩ := k22''''''''''''.at_ 0 (x := .slice A20 (drM xs0 xs1).length d20) rfl
  have l22 := k22''''''''''''.lt
  go_wp2_with fail
  refine (heldMem _ (drM xs0 xs1).length (1 + ((drB xs0 xs1).length : Int) * 2) _ hq44'.rd (by omega) (by omega) (by omega)).mono ?_
  rintro e w48 ⟨rfl, hb48⟩
  clear hc1x0 gc1x0 l1 hc6x0 gc6x0 l6 hc17x0 gc17x0 l17 hc22x0 gc22x0 l22
  have sz49 := hb48.size
  try simp only [World.size_alloc] at sz49
  have hB'''''''''''''''''''''' := hB'''''''''''''''''''''.trans (hb48.mono hB'''''''''''''''''''''.size)
  clear hB'''''''''''''''''''''
  have k1''''''''''''''''''''' := k1''''''''''''''''''''.below hb48 k1''''''''''''''''''''.lt
  clear k1''''''''''''''''''''
  have kg6'''''''''''''''''' := kg6'''''''''''''''''.below hb48 kg6'''''''''''''''''.lt
  clear kg6'''''''''''''''''
  have k17''''''''''''''' := k17''''''''''''''.below hb48 k17''''''''''''''.lt
  clear k17''''''''''''''
  have k22''''''''''''' := k22''''''''''''.below hb48 k22''''''''''''.lt
  clear k22''''''''''''
  have ho10'''''''''''''''''' := ho10'''''''''''''''''.below hb48
  clear ho10'''''''''''''''''
  have ho11'''''''''''''''''' := ho11'''''''''''''''''.below hb48
  clear ho11'''''''''''''''''
  have hq34''''''' := hq34''''''.below hb48
  clear hq34''''''
  have hq36'''''' := hq36'''''.below hb48
  clear hq36'''''
  have hq42''' := hq42''.below hb48
  clear hq42''
  have hq44'' := hq44'.below hb48
  clear hq44'
  have ho27'''''''''' := ho27'''''''''.below hb48
  clear ho27'''''''''
  obtain ⟨hc1x0, gc1x0⟩ := k1'''''''''''''''''''''.at_ 0 (x := .slice Aa1 xs1.length da1) rfl
  have l1 := k1'''''''''''''''''''''.lt
  obtain ⟨hc6x0, gc6x0⟩ := kg6''''''''''''''''''.at_ 0 (x := .slice A11 (drM xs0 xs1).length d11) rfl
  have l6 := kg6''''''''''''''''''.lt
  obtain ⟨hc17x0, gc17x0⟩ := k17'''''''''''''''.at_ 0 (x := .slice A15 xs1.length d15) rfl
  have l17 := k17'''''''''''''''.lt
  obtain ⟨hc22x0, gc22x0⟩ := k22'''''''''''''.at_ 0 (x := .slice A20 (drM xs0 xs1).length d20) rfl
  have l22 := k22'''''''''''''.lt
  go_wp2_with fail
  clear hc1x0 gc1x0 l1 hc6x0 gc6x0 l6 hc17x0 gc17x0 l17 hc22x0 gc22x0 l22
  obtain ⟨hc1x0, gc1x0⟩ := k1'''''''''''''''''''''.at_ 0 (x := .slice Aa1 xs1.length da1) rfl
  have l1 := k1'''''''''''''''''''''.lt
  obtain ⟨hc6x0, gc6x0⟩ := kg6''''''''''''''''''.at_ 0 (x := .slice A11 (drM xs0 xs1).length d11) rfl
  have l6 := kg6''''''''''''''''''.lt
  obtain ⟨hc17x0, gc17x0⟩ := k17'''''''''''''''.at_ 0 (x := .slice A15 xs1.length d15) rfl
  have l17 := k17'''''''''''''''.lt
  obtain ⟨hc22x0, gc22x0⟩ := k22'''''''''''''.at_ 0 (x := .slice A20 (drM xs0 xs1).length d20) rfl
  have l22 := k22'''''''''''''.lt
  have HS50 : Hid (∀ W : World, Below w48.heap.size w48 W → Below w48.heap.size w48 W ∧ W.cell? ⟨w.heap.size, 0, none⟩ = some (.slice Aa1 xs1.length da1)) := Lib.hid fun W hW => ⟨hW, (hW.cell (p := ⟨w.heap.size, 0, none⟩) k1'''''''''''''''''''''.lt).trans hc1x0⟩
  have KN50 : Hid (Bk ((w48.alloc (.cells #[.slice none 0 0] 26)).drew) w48.heap.size #[.slice none 0 0] 26) := Lib.hid (Bk.new w48 #[.slice none 0 0] 26)
  have HN50 : Hid (Below w48.heap.size w48 (w48.alloc (.cells #[.slice none 0 0] 26)).drew) := Lib.hid ((Below.refl _ w48).alloc (Nat.le_refl _) _).drew
  have HB50 := Lib.hid hB''''''''''''''''''''''
  have nb50x1 : w.heap.size ≠ w48.heap.size := by have := k1'''''''''''''''''''''.lt; omega
  go_cut [17, 18, 19] (fun p50x0 p50x1 p50x2 wz => ∃ (A54 : Option Addr) (d54 : Nat) (bs54 : List Nat) (A55 : Option Addr) (d55 : Nat) (bs55 : List Nat) (g50 : Nat), p50x0 = .slice A54 (drB xs0 xs1).length d54 ∧ p50x1 = .pointer (some ⟨g50, 0, none⟩) ∧ p50x2 = .bool (drOk xs0 xs1) ∧ Own wz (.slice A54 (drB xs0 xs1).length d54) 2 (drB xs0 xs1).length (flc2 (drB xs0 xs1)) bs54 ∧ Own wz (.slice A55 (drM xs0 xs1).length d55) 1 (drM xs0 xs1).length (ints (drM xs0 xs1)) bs55 ∧ (∀ b ∈ bs54, w48.heap.size ≤ b) ∧ (∀ b ∈ bs55, w48.heap.size ≤ b) ∧ Bk wz g50 #[.slice A55 (drM xs0 xs1).length d55] 26 ∧ w48.heap.size ≤ g50 ∧ Below w48.heap.size w48 wz)
  case first =>
    go_region_held3 (fun W => Below w48.heap.size w48 W ∧ W.cell? ⟨w.heap.size, 0, none⟩ = some (.slice Aa1 xs1.length da1)) (first | (exact HS50.out _ (Below.refl _ _).drew) | (exact HS50.out _ HN50.out) | (exact HS50.out _ (hS50x0.alloc hS50x0.size _)) | (exact HS50.out _ (hS50x1.alloc hS50x1.size _)) | (exact HS50.out _ (hS50x2.alloc hS50x2.size _)) | (exact HS50.out _ (hS50x2.setCell (Nat.le_refl _) _)) | (exact HS50.out _ (hS50x2.setCell hS50x0.size _)) | (exact HS50.out _ (hS50x2.setCell hS50x1.size _)) | (exact HS50.out _ (hS50x2.setCell hS50x2.size _)) | (exact HS50.out _ (by assumption)))
      (first
        | (go_at_call 43; have hS := ‹Below w48.heap.size w48 _ ∧ _›.1; refine (toSlotS _ xs0 _ (HAaB.out.below (HB50.out.trans (hS.mono HB50.out.size))) (by omega)).mono ?_; rintro e w51 ⟨v51x0, bs51, rfl, ho51, lo51, hb51⟩; have hS50x0 := hS.trans (hb51.mono hS.size); clear hS; (first | (have q50x0 := KN50.out.below hb51 KN50.out.lt) | skip))
        | (go_at_call_of 24 (Value.agg #[Value.slice Aa1 xs1.length da1] : Value); have hS := ‹Below w48.heap.size w48 _ ∧ _›.1; refine (toMem _ xs1 _ (HAaM.out.below (HB50.out.trans (hS.mono HB50.out.size))) (by omega)).mono ?_; rintro e w52 ⟨v52x0, bs52, rfl, ho52, lo52, hb52⟩; have hS50x1 := hS.trans (hb52.mono hS.size); clear hS; (first | (have ho51 := ho51.below hb52) | (have ho51 := (ho51.below ((Below.refl _ w51).alloc (Nat.le_refl _) (.cells #[.slice none 0 0] 26))).below hb52)); (first | (have q50x1 := q50x0.below hb52 q50x0.lt) | (have q50x1 := (Bk.new w51 #[.slice none 0 0] 26).below hb52 (Bk.new w51 #[.slice none 0 0] 26).lt) | skip))
        | (go_at_call 40; have hS := ‹Below w48.heap.size w48 _ ∧ _›.1; refine ((impl_DrainOne _ _ xs0 xs1 _ ho51.rd ho52.rd (by omega) (by omega)).mono fun _ _ h => h.plain).mono ?_; rintro e w53 ⟨v54x0, bs54, v55x0, bs55, rfl, ho54, ho55, lo54, lo55, hb53⟩; have hS50x2 := hS.trans (hb53.mono hS.size); clear hS; obtain ⟨A54, d54, rfl, -, -⟩ := ho54.slice; obtain ⟨A55, d55, rfl, -, -⟩ := ho55.slice; (first | (have q50x2 := q50x1.below hb53 q50x1.lt) | (have q50x2 := (Bk.new w52 #[.slice none 0 0] 26).below hb53 (Bk.new w52 #[.slice none 0 0] 26).lt) | skip); try (obtain ⟨hq50, hg50⟩ := q50x2.at_ 0 (x := .slice none 0 0) rfl))
        | (go_at_call 40; have hS := ‹Below w48.heap.size w48 _ ∧ _›.1; refine ((impl_DrainOne _ _ xs0 xs1 _ (ho51.below ((Below.refl _ w52).alloc (Nat.le_refl _) (.cells #[.slice none 0 0] 26))).rd (ho52.below ((Below.refl _ w52).alloc (Nat.le_refl _) (.cells #[.slice none 0 0] 26))).rd (by omega) (by omega)).mono fun _ _ h => h.plain).mono ?_; rintro e w53 ⟨v54x0, bs54, v55x0, bs55, rfl, ho54, ho55, lo54, lo55, hb53⟩; have hS50x2 := hS.trans (hb53.mono hS.size); clear hS; obtain ⟨A54, d54, rfl, -, -⟩ := ho54.slice; obtain ⟨A55, d55, rfl, -, -⟩ := ho55.slice; (first | (have q50x2 := q50x1.below hb53 q50x1.lt) | (have q50x2 := (Bk.new w52 #[.slice none 0 0] 26).below hb53 (Bk.new w52 #[.slice none 0 0] 26).lt) | skip); try (obtain ⟨hq50, hg50⟩ := q50x2.at_ 0 (x := .slice none 0 0) rfl)))
    all_goals go_wp2_with fail
    all_goals go_meet
    all_goals (try have s50w51 := hS50x0.size)
    all_goals (try have s50w52 := hS50x1.size)
    all_goals (try have t50hb51 := hb51.size)
    all_goals (try simp at t50hb51)
    all_goals (try have t50hb52 := hb52.size)
    all_goals (try simp at t50hb52)
    all_goals (try have t50hb53 := hb53.size)
    all_goals (try simp at t50hb53)
    all_goals (first | exact ⟨A54, d54, bs54, A55, d55, bs55, _, rfl, rfl, rfl, ho54.below ((Below.refl _ _).alloc (Nat.le_refl _) _), ho55.below ((Below.refl _ _).alloc (Nat.le_refl _) _), fun b hb => Nat.le_trans (by first | omega | (simp; omega) | simp) (lo54 b hb), fun b hb => Nat.le_trans (by first | omega | (simp; omega) | simp) (lo55 b hb), Bk.new _ _ _, hS50x2.size, hS50x2.alloc hS50x2.size _⟩ | exact ⟨A54, d54, bs54, A55, d55, bs55, _, rfl, rfl, rfl, ho54.far (fun k hk => by have := lo54 k hk; (try simp only [World.size_alloc] at this); omega), ho55.far (fun k hk => by have := lo55 k hk; (try simp only [World.size_alloc] at this); omega), fun b hb => Nat.le_trans (by first | omega | (simp; omega) | simp) (lo54 b hb), fun b hb => Nat.le_trans (by first | omega | (simp; omega) | simp) (lo55 b hb), by simpa using q50x2.set_ 0 (.slice A55 (drM xs0 xs1).length d55), by first | exact Nat.le_refl _ | omega, hS50x2.setCell (by first | exact Nat.le_refl _ | (show w48.heap.size ≤ _; omega)) _⟩)
  obtain ⟨A54, d54, bs54, A55, d55, bs55, g50, rfl, rfl, rfl, ho54, ho55, lo54, lo55, kg50, hgl50, hBc50⟩ := hcut
  rename World => wc50
  have hgt50 := kg50.lt
  clear HS50 KN50 HN50 HB50 nb50x1
  clear hc1x0 gc1x0 l1 hc6x0 gc6x0 l6 hc17x0 gc17x0 l17 hc22x0 gc22x0 l22
  have sz56 := hBc50.size
  try simp only [World.size_alloc] at sz56
  have hB''''''''''''''''''''''' := hB''''''''''''''''''''''.trans (hBc50.mono hB''''''''''''''''''''''.size)
  clear hB''''''''''''''''''''''
  have k1'''''''''''''''''''''' := k1'''''''''''''''''''''.below hBc50 k1'''''''''''''''''''''.lt
  clear k1'''''''''''''''''''''
  have kg6''''''''''''''''''' := kg6''''''''''''''''''.below hBc50 kg6''''''''''''''''''.lt
  clear kg6''''''''''''''''''
  have k17'''''''''''''''' := k17'''''''''''''''.below hBc50 k17'''''''''''''''.lt
  clear k17'''''''''''''''
  have k22'''''''''''''' := k22'''''''''''''.below hBc50 k22'''''''''''''.lt
  clear k22'''''''''''''
  have ho10''''''''''''''''''' := ho10''''''''''''''''''.below hBc50
  clear ho10''''''''''''''''''
  have ho11''''''''''''''''''' := ho11''''''''''''''''''.below hBc50
  clear ho11''''''''''''''''''
  have hq34'''''''' := hq34'''''''.below hBc50
  clear hq34'''''''
  have hq36''''''' := hq36''''''.below hBc50
  clear hq36''''''
  have hq42'''' := hq42'''.below hBc50
  clear hq42'''
  have hq44''' := hq44''.below hBc50
  clear hq44''
  have ho27''''''''''' := ho27''''''''''.below hBc50
  clear ho27''''''''''
  have hi54 := ho54.lt
  have hi55 := ho55.lt
  obtain ⟨hc1x0, gc1x0⟩ := k1''''''''''''''''''''''.at_ 0 (x := .slice Aa1 xs1.length da1) rfl
  have l1 := k1''''''''''''''''''''''.lt
  obtain ⟨hc6x0, gc6x0⟩ := kg6'''''''''''''''''''.at_ 0 (x := .slice A11 (drM xs0 xs1).length d11) rfl
  have l6 := kg6'''''''''''''''''''.lt
  obtain ⟨hc17x0, gc17x0⟩ := k17''''''''''''''''.at_ 0 (x := .slice A15 xs1.length d15) rfl
  have l17 := k17''''''''''''''''.lt
  obtain ⟨hc22x0, gc22x0⟩ := k22''''''''''''''.at_ 0 (x := .slice A20 (drM xs0 xs1).length d20) rfl
  have l22 := k22''''''''''''''.lt
  obtain ⟨hc50x0, gc50x0⟩ := kg50.at_ 0 (x := .slice A55 (drM xs0 xs1).length d55) rfl
  have l50 := kg50.lt
  go_wp2_with fail
  refine (eqSlotS _ _ ((drB xs0 xs1)) ((drB xs0 xs1)) _ ho54.rd ho10'''''''''''''''''''.rd).mono ?_
  rintro e w57 ⟨rfl, hb57⟩
  rw [decide_eq_true rfl]
  clear hc1x0 gc1x0 l1 hc6x0 gc6x0 l6 hc17x0 gc17x0 l17 hc22x0 gc22x0 l22 hc50x0 gc50x0 l50
  have sz58 := hb57.size
  try simp only [World.size_alloc] at sz58
  have hB'''''''''''''''''''''''' := hB'''''''''''''''''''''''.trans (hb57.mono hB'''''''''''''''''''''''.size)
  clear hB'''''''''''''''''''''''
  have k1''''''''''''''''''''''' := k1''''''''''''''''''''''.below hb57 k1''''''''''''''''''''''.lt
  clear k1''''''''''''''''''''''
  have kg6'''''''''''''''''''' := kg6'''''''''''''''''''.below hb57 kg6'''''''''''''''''''.lt
  clear kg6'''''''''''''''''''
  have k17''''''''''''''''' := k17''''''''''''''''.below hb57 k17''''''''''''''''.lt
  clear k17''''''''''''''''
  have k22''''''''''''''' := k22''''''''''''''.below hb57 k22''''''''''''''.lt
  clear k22''''''''''''''
  have kg50' := kg50.below hb57 kg50.lt
  clear kg50
  have ho10'''''''''''''''''''' := ho10'''''''''''''''''''.below hb57
  clear ho10'''''''''''''''''''
  have ho11'''''''''''''''''''' := ho11'''''''''''''''''''.below hb57
  clear ho11'''''''''''''''''''
  have hq34''''''''' := hq34''''''''.below hb57
  clear hq34''''''''
  have hq36'''''''' := hq36'''''''.below hb57
  clear hq36'''''''
  have hq42''''' := hq42''''.below hb57
  clear hq42''''
  have hq44'''' := hq44'''.below hb57
  clear hq44'''
  have ho27'''''''''''' := ho27'''''''''''.below hb57
  clear ho27'''''''''''
  have ho54' := ho54.below hb57
  clear ho54
  have ho55' := ho55.below hb57
  clear ho55
  obtain ⟨hc1x0, gc1x0⟩ := k1'''''''''''''''''''''''.at_ 0 (x := .slice Aa1 xs1.length da1) rfl
  have l1 := k1'''''''''''''''''''''''.lt
  obtain ⟨hc6x0, gc6x0⟩ := kg6''''''''''''''''''''.at_ 0 (x := .slice A11 (drM xs0 xs1).length d11) rfl
  have l6 := kg6''''''''''''''''''''.lt
  obtain ⟨hc17x0, gc17x0⟩ := k17'''''''''''''''''.at_ 0 (x := .slice A15 xs1.length d15) rfl
  have l17 := k17'''''''''''''''''.lt
  obtain ⟨hc22x0, gc22x0⟩ := k22'''''''''''''''.at_ 0 (x := .slice A20 (drM xs0 xs1).length d20) rfl
  have l22 := k22'''''''''''''''.lt
  obtain ⟨hc50x0, gc50x0⟩ := kg50'.at_ 0 (x := .slice A55 (drM xs0 xs1).length d55) rfl
  have l50 := kg50'.lt
  go_wp2_with fail
  refine (eqMemB _ _ ((drM xs0 xs1)) ((drM xs0 xs1)) _ ho55'.rd ho11''''''''''''''''''''.rd).mono ?_
  rintro e w59 ⟨rfl, hb59⟩
  rw [decide_eq_true rfl]
  clear hc1x0 gc1x0 l1 hc6x0 gc6x0 l6 hc17x0 gc17x0 l17 hc22x0 gc22x0 l22 hc50x0 gc50x0 l50
  have sz60 := hb59.size
  try simp only [World.size_alloc] at sz60
  have hB''''''''''''''''''''''''' := hB''''''''''''''''''''''''.trans (hb59.mono hB''''''''''''''''''''''''.size)
  clear hB''''''''''''''''''''''''
  have k1'''''''''''''''''''''''' := k1'''''''''''''''''''''''.below hb59 k1'''''''''''''''''''''''.lt
  clear k1'''''''''''''''''''''''
  have kg6''''''''''''''''''''' := kg6''''''''''''''''''''.below hb59 kg6''''''''''''''''''''.lt
  clear kg6''''''''''''''''''''
  have k17'''''''''''''''''' := k17'''''''''''''''''.below hb59 k17'''''''''''''''''.lt
  clear k17'''''''''''''''''
  have k22'''''''''''''''' := k22'''''''''''''''.below hb59 k22'''''''''''''''.lt
  clear k22'''''''''''''''
  have kg50'' := kg50'.below hb59 kg50'.lt
  clear kg50'
  have ho10''''''''''''''''''''' := ho10''''''''''''''''''''.below hb59
  clear ho10''''''''''''''''''''
  have ho11''''''''''''''''''''' := ho11''''''''''''''''''''.below hb59
  clear ho11''''''''''''''''''''
  have hq34'''''''''' := hq34'''''''''.below hb59
  clear hq34'''''''''
  have hq36''''''''' := hq36''''''''.below hb59
  clear hq36''''''''
  have hq42'''''' := hq42'''''.below hb59
  clear hq42'''''
  have hq44''''' := hq44''''.below hb59
  clear hq44''''
  have ho27''''''''''''' := ho27''''''''''''.below hb59
  clear ho27''''''''''''
  have ho54'' := ho54'.below hb59
  clear ho54'
  have ho55'' := ho55'.below hb59
  clear ho55'
  obtain ⟨hc1x0, gc1x0⟩ := k1''''''''''''''''''''''''.at_ 0 (x := .slice Aa1 xs1.length da1) rfl
  have l1 := k1''''''''''''''''''''''''.lt
  obtain ⟨hc6x0, gc6x0⟩ := kg6'''''''''''''''''''''.at_ 0 (x := .slice A11 (drM xs0 xs1).length d11) rfl
  have l6 := kg6'''''''''''''''''''''.lt
  obtain ⟨hc17x0, gc17x0⟩ := k17''''''''''''''''''.at_ 0 (x := .slice A15 xs1.length d15) rfl
  have l17 := k17''''''''''''''''''.lt
  obtain ⟨hc22x0, gc22x0⟩ := k22''''''''''''''''.at_ 0 (x := .slice A20 (drM xs0 xs1).length d20) rfl
  have l22 := k22''''''''''''''''.lt
  obtain ⟨hc50x0, gc50x0⟩ := kg50''.at_ 0 (x := .slice A55 (drM xs0 xs1).length d55) rfl
  have l50 := kg50''.lt
  go_wp2_with fail
  refine (heldSlotSB _ (drB xs0 xs1).length _ _ hq42''''''.rd (by omega) (by omega) (by omega)).mono ?_
  rintro e w61 ⟨rfl, hb61⟩
  clear hc1x0 gc1x0 l1 hc6x0 gc6x0 l6 hc17x0 gc17x0 l17 hc22x0 gc22x0 l22 hc50x0 gc50x0 l50
  have sz62 := hb61.size
  try simp only [World.size_alloc] at sz62
  have hB'''''''''''''''''''''''''' := hB'''''''''''''''''''''''''.trans (hb61.mono hB'''''''''''''''''''''''''.size)
  clear hB'''''''''''''''''''''''''
  have k1''''''''''''''''''''''''' := k1''''''''''''''''''''''''.below hb61 k1''''''''''''''''''''''''.lt
  clear k1''''''''''''''''''''''''
  have kg6'''''''''''''''''''''' := kg6'''''''''''''''''''''.below hb61 kg6'''''''''''''''''''''.lt
  clear kg6'''''''''''''''''''''
  have k17''''''''''''''''''' := k17''''''''''''''''''.below hb61 k17''''''''''''''''''.lt
  clear k17''''''''''''''''''
  have k22''''''''''''''''' := k22''''''''''''''''.below hb61 k22''''''''''''''''.lt
  clear k22''''''''''''''''
  have kg50''' := kg50''.below hb61 kg50''.lt
  clear kg50''
  have ho10'''''''''''''''''''''' := ho10'''''''''''''''''''''.below hb61
  clear ho10'''''''''''''''''''''
  have ho11'''''''''''''''''''''' := ho11'''''''''''''''''''''.below hb61
  clear ho11'''''''''''''''''''''
  have hq34''''''''''' := hq34''''''''''.below hb61
  clear hq34''''''''''
  have hq36'''''''''' := hq36'''''''''.below hb61
  clear hq36'''''''''
  have hq42''''''' := hq42''''''.below hb61
  clear hq42''''''
  have hq44'''''' := hq44'''''.below hb61
  clear hq44'''''
  have ho27'''''''''''''' := ho27'''''''''''''.below hb61
  clear ho27'''''''''''''
  have ho54''' := ho54''.below hb61
  clear ho54''
  have ho55''' := ho55''.below hb61
  clear ho55''
  obtain ⟨hc1x0, gc1x0⟩ := k1'''''''''''''''''''''''''.at_ 0 (x := .slice Aa1 xs1.length da1) rfl
  have l1 := k1'''''''''''''''''''''''''.lt
  obtain ⟨hc6x0, gc6x0⟩ := kg6''''''''''''''''''''''.at_ 0 (x := .slice A11 (drM xs0 xs1).length d11) rfl
  have l6 := kg6''''''''''''''''''''''.lt
  obtain ⟨hc17x0, gc17x0⟩ := k17'''''''''''''''''''.at_ 0 (x := .slice A15 xs1.length d15) rfl
  have l17 := k17'''''''''''''''''''.lt
  obtain ⟨hc22x0, gc22x0⟩ := k22'''''''''''''''''.at_ 0 (x := .slice A20 (drM xs0 xs1).length d20) rfl
  have l22 := k22'''''''''''''''''.lt
  obtain ⟨hc50x0, gc50x0⟩ := kg50'''.at_ 0 (x := .slice A55 (drM xs0 xs1).length d55) rfl
  have l50 := kg50'''.lt
  go_wp2_with fail
  refine (heldMem _ (drM xs0 xs1).length (1 + ((drB xs0 xs1).length : Int) * 2) _ hq44''''''.rd (by omega) (by omega) (by omega)).mono ?_
  rintro e w63 ⟨rfl, hb63⟩
  clear hc1x0 gc1x0 l1 hc6x0 gc6x0 l6 hc17x0 gc17x0 l17 hc22x0 gc22x0 l22 hc50x0 gc50x0 l50
  have sz64 := hb63.size
  try simp only [World.size_alloc] at sz64
  have hB''''''''''''''''''''''''''' := hB''''''''''''''''''''''''''.trans (hb63.mono hB''''''''''''''''''''''''''.size)
  clear hB''''''''''''''''''''''''''
  have k1'''''''''''''''''''''''''' := k1'''''''''''''''''''''''''.below hb63 k1'''''''''''''''''''''''''.lt
  clear k1'''''''''''''''''''''''''
  have kg6''''''''''''''''''''''' := kg6''''''''''''''''''''''.below hb63 kg6''''''''''''''''''''''.lt
  clear kg6''''''''''''''''''''''
  have k17'''''''''''''''''''' := k17'''''''''''''''''''.below hb63 k17'''''''''''''''''''.lt
  clear k17'''''''''''''''''''
  have k22'''''''''''''''''' := k22'''''''''''''''''.below hb63 k22'''''''''''''''''.lt
  clear k22'''''''''''''''''
  have kg50'''' := kg50'''.below hb63 kg50'''.lt
  clear kg50'''
  have ho10''''''''''''''''''''''' := ho10''''''''''''''''''''''.below hb63
  clear ho10''''''''''''''''''''''
  have ho11''''''''''''''''''''''' := ho11''''''''''''''''''''''.below hb63
  clear ho11''''''''''''''''''''''
  have hq34'''''''''''' := hq34'''''''''''.below hb63
  clear hq34'''''''''''
  have hq36''''''''''' := hq36''''''''''.below hb63
  clear hq36''''''''''
  have hq42'''''''' := hq42'''''''.below hb63
  clear hq42'''''''
  have hq44''''''' := hq44''''''.below hb63
  clear hq44''''''
  have ho27''''''''''''''' := ho27''''''''''''''.below hb63
  clear ho27''''''''''''''
  have ho54'''' := ho54'''.below hb63
  clear ho54'''
  have ho55'''' := ho55'''.below hb63
  clear ho55'''
  obtain ⟨hc1x0, gc1x0⟩ := k1''''''''''''''''''''''''''.at_ 0 (x := .slice Aa1 xs1.length da1) rfl
  have l1 := k1''''''''''''''''''''''''''.lt
  obtain ⟨hc6x0, gc6x0⟩ := kg6'''''''''''''''''''''''.at_ 0 (x := .slice A11 (drM xs0 xs1).length d11) rfl
  have l6 := kg6'''''''''''''''''''''''.lt
  obtain ⟨hc17x0, gc17x0⟩ := k17''''''''''''''''''''.at_ 0 (x := .slice A15 xs1.length d15) rfl
  have l17 := k17''''''''''''''''''''.lt
  obtain ⟨hc22x0, gc22x0⟩ := k22''''''''''''''''''.at_ 0 (x := .slice A20 (drM xs0 xs1).length d20) rfl
  have l22 := k22''''''''''''''''''.lt
  obtain ⟨hc50x0, gc50x0⟩ := kg50''''.at_ 0 (x := .slice A55 (drM xs0 xs1).length d55) rfl
  have l50 := kg50''''.lt
  go_wp2_with fail
  go_ret
  exact ⟨rfl, hB'''''''''''''''''''''''''''⟩
set_option maxRecDepth 100000 in
theorem lift_DrainOne (os : Os) (started : os.Started) (H : Type) (enc : TypeId × Value → H) :
    ReturnsInHanded {} Try.checked os 11 .any (Rows.fnExactDrainOneSpec.pre6 enc Try.prog Try.f11 Rows.fnExactDrainOneRow.domain false) (Rows.fnExactDrainOneSpec.post enc Try.prog Try.f11 false true false false) := by
  refine returnsInHanded_of_change (C := Try.checked) (by kernel_rfl) started (by kernel_rfl) Try.func11
    (ChangeSpec.witness6 (enc := enc) (C := Try.checked) false ⟨#[], #[.slice none 0 0, .agg #[.slice none 0 0]], []⟩ 8 (by kernel_rfl) (by kernel_rfl) (by kernel_rfl) (by kernel_rfl)) ?_
  intro W base args ds gs before hval0 hW hcnd _
  have hval : ∀ (j : Nat) t v, Try.f11.params[j]? = some t → args[j]? = some v → Value.okWide Try.prog W .any base t v := hval0
  have hW' := hW
  obtain ⟨p, q, hA0, hV, rfl, hfz, hnd⟩ := hW
  have hA : DataW.TrodAll enc Try.prog W 0 (fun _ => true) true Try.f11.params.toList args.toList ds p := hA0
  rw [Try.params11] at hA hval
  obtain ⟨v0, vs0, d0, ds0, p0, q0, hargs, rfl, rfl, h0, r0⟩ := trodAll_cons hA
  obtain ⟨v1, vs1, d1, ds1, p1, q1, rfl, rfl, rfl, h1, r1⟩ := trodAll_cons r0
  obtain ⟨rfl, rfl, rfl⟩ := trodAll_nil r1
  obtain rfl : args = #[v0, v1] := by cases args; simp_all
  obtain ⟨rfl, rfl⟩ := trodVars_none hV
  obtain ⟨c0, l0, e0, rfl⟩ := okWide_slice Try.underlying63 (hval 0 _ v0 rfl rfl)
  obtain ⟨fuel0, hf0⟩ := h0
  obtain ⟨xs0, hR0, hI0⟩ := read_p2s Try.underlying63 Try.underlying118 (by kernel_rfl) ⟨rfl, rfl⟩ (by decide +kernel) ⟨Try.underlying3, Try.underlying3⟩ (by simpa [Value.cells] using hf0)
  obtain ⟨c1, xs1, rfl, hR1, _⟩ := read_mem Try.underlying34 ⟨rfl, rfl⟩ (by kernel_rfl) (by kernel_rfl) Try.underlying24 Try.underlying3 (by kernel_rfl) (hval 1 _ v1 rfl rfl) h1
  refine (walk_DrainOne _ xs0 c1 xs1 W hR0 hR1).mono fun e W' ⟨he, hb⟩ => ?_
  subst he
  exact ⟨_, rfl, post_law (by kernel_rfl) rfl rfl (by kernel_rfl) Try.underlying4 (of_decide_eq_true (by kernel_rfl)) hW' hb⟩
theorem FnExactDrainOne_holds : Rows.FnExactDrainOneSaid :=
  OpenClaim.holds_of_wide 11 Try.f11 rfl rfl rfl rfl rfl rfl rfl ⟨rfl, rfl, rfl, rfl, rfl⟩ rfl rfl rfl rfl rfl (by kernel_rfl) Try.func11 (by kernel_rfl)
    (of_decide_eq_true (by kernel_rfl)) (by unfold Func.isWrapper; first | (rw [if_pos (by decide +kernel)]; kernel_rfl) | (rw [if_neg (by decide +kernel)]; exact ⟨rfl, rfl⟩))
    (fun os started H enc _ => lift_DrainOne os started H enc)
#print axioms FnExactDrainOne_holds
end Go.Proofs.Ytiflooopfpcelab
