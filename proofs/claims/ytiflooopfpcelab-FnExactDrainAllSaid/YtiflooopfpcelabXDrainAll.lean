/- FnExactDrainAll answers true at every input: DrainAll answers as its model does, leaves its arguments alone and owns its answer. Conditions: none. -/
import Derived.Test.YtiflooopfpcelabLaw
import Derived.Test.YtiflooopfpcelabLaw3
import Derived.Test.YtiflooopfpcelabB6
import Derived.Deep.RegionHeld3
namespace Go.Proofs.Ytiflooopfpcelab
set_option maxRecDepth 20000
set_option linter.unusedSimpArgs false
set_option linter.unusedVariables false
open Go.ChangeShapes Go.WideShapes Go.ChangeAt Go.RowKit
set_option linter.unusedVariables false
set_option maxHeartbeats 4000000 in
theorem walk_DrainAll (v0 : Value) (xs0 : List P2) (v1 : Value) (xs1 : List Int) (w : World) (hA0 : RdA w v0 2 xs0.length (flc2 xs0)) (hA1 : RdA w v1 1 xs1.length (ints xs1)) :
    Calls Try.prog 12 #[v0, .agg #[v1]] w fun e w' => e = .returned (.bool true) ∧ Below w.heap.size w w' := by
  obtain ⟨Aa0, da0, rfl, -, -, -, -⟩ := id hA0
  have HAaB := Lib.hid hA0
  clear hA0
  obtain ⟨Aa1, da1, rfl, -, -, -, -⟩ := id hA1
  have HAaM := Lib.hid hA1
  clear hA1
  have hq : (daF xs0 xs1).length = xs1.length := daF_len xs0 xs1
  have hq1 : (daF xs0 xs1).length ≤ xs1.length ∧ xs1.length ≤ (daF xs0 xs1).length := by omega
  clear hq
  have hB := Below.refl w.heap.size w
  go_enter Try.func12, Try.ntmps12
  go_wp2_with fail
  have hB' := hB.alloc hB.size (.cells #[.slice Aa1 xs1.length da1] 34)
  clear hB
  have k1 := Bk.new w #[.slice Aa1 xs1.length da1] 34
  refine (toB (szSlotS _ _ _ (1048576) _ (HAaB.out.below hB') (by omega) (by omega))).mono ?_
  rintro e w2 ⟨rfl, hb2⟩
  have sz3 := hb2.size
  try simp only [World.size_alloc] at sz3
  have hB'' := hB'.trans (hb2.mono hB'.size)
  clear hB'
  have k1' := k1.below hb2 k1.lt
  clear k1
  by_cases hn2 : (1048576 : Int) - xs0.length < 0
  · rw [show szF xs0.length (1048576) = -1 by unfold szF; rw [if_pos hn2]]
    go_wp2_with fail
    go_ret
    exact ⟨rfl, hB''⟩
  rw [show szF xs0.length (1048576) = 1048576 - xs0.length by unfold szF; rw [if_neg hn2]]
  obtain ⟨hc1x0, gc1x0⟩ := k1'.at_ 0 (x := .slice Aa1 xs1.length da1) rfl
  have l1 := k1'.lt
  go_wp2_with fail
  refine (szMem _ _ _ (1048576 - xs0.length) _ (HAaM.out.below hB'') (by omega) (by omega)).mono ?_
  rintro e w4 ⟨rfl, hb4⟩
  clear hc1x0 gc1x0 l1
  have sz5 := hb4.size
  try simp only [World.size_alloc] at sz5
  have hB''' := hB''.trans (hb4.mono hB''.size)
  clear hB''
  have k1'' := k1'.below hb4 k1'.lt
  clear k1'
  by_cases hn4 : (1048576 - xs0.length : Int) - xs1.length < 0
  · rw [show szF xs1.length (1048576 - xs0.length) = -1 by unfold szF; rw [if_pos hn4]]
    go_wp2_with fail
    go_ret
    exact ⟨rfl, hB'''⟩
  rw [show szF xs1.length (1048576 - xs0.length) = 1048576 - xs0.length - xs1.length by unfold szF; rw [if_neg hn4]]
  obtain ⟨hc1x0, gc1x0⟩ := k1''.at_ 0 (x := .slice Aa1 xs1.length da1) rfl
  have l1 := k1''.lt
  go_wp2_with fail
  clear hc1x0 gc1x0 l1
  obtain ⟨hc1x0, gc1x0⟩ := k1''.at_ 0 (x := .slice Aa1 xs1.length da1) rfl
  have l1 := k1''.lt
  have HS6 : Hid (∀ W : World, Below w4.heap.size w4 W → Below w4.heap.size w4 W ∧ W.cell? ⟨w.heap.size, 0, none⟩ = some (.slice Aa1 xs1.length da1)) := Lib.hid fun W hW => ⟨hW, (hW.cell (p := ⟨w.heap.size, 0, none⟩) k1''.lt).trans hc1x0⟩
  have KN6 : Hid (Bk ((w4.alloc (.cells #[.slice none 0 0] 26)).drew) w4.heap.size #[.slice none 0 0] 26) := Lib.hid (Bk.new w4 #[.slice none 0 0] 26)
  have HN6 : Hid (Below w4.heap.size w4 (w4.alloc (.cells #[.slice none 0 0] 26)).drew) := Lib.hid ((Below.refl _ w4).alloc (Nat.le_refl _) _).drew
  have HB6 := Lib.hid hB'''
  have nb6x1 : w.heap.size ≠ w4.heap.size := by have := k1''.lt; omega
  go_cut [6, 7] (fun p6x0 p6x1 wz => ∃ (A10 : Option Addr) (d10 : Nat) (bs10 : List Nat) (g6 : Nat), p6x0 = .pointer (some ⟨g6, 0, none⟩) ∧ p6x1 = .bool (daOk xs0 xs1) ∧ Own wz (.slice A10 (daF xs0 xs1).length d10) 1 (daF xs0 xs1).length (ints (daF xs0 xs1)) bs10 ∧ (∀ b ∈ bs10, w4.heap.size ≤ b) ∧ Bk wz g6 #[.slice A10 (daF xs0 xs1).length d10] 26 ∧ w4.heap.size ≤ g6 ∧ Below w4.heap.size w4 wz)
  case first =>
    go_region_held3 (fun W => Below w4.heap.size w4 W ∧ W.cell? ⟨w.heap.size, 0, none⟩ = some (.slice Aa1 xs1.length da1)) (first | (exact HS6.out _ (Below.refl _ _).drew) | (exact HS6.out _ HN6.out) | (exact HS6.out _ (hS6x0.alloc hS6x0.size _)) | (exact HS6.out _ (hS6x1.alloc hS6x1.size _)) | (exact HS6.out _ (hS6x2.alloc hS6x2.size _)) | (exact HS6.out _ (hS6x2.setCell (Nat.le_refl _) _)) | (exact HS6.out _ (hS6x2.setCell hS6x0.size _)) | (exact HS6.out _ (hS6x2.setCell hS6x1.size _)) | (exact HS6.out _ (hS6x2.setCell hS6x2.size _)) | (exact HS6.out _ (by assumption)))
      (first
        | (go_at_call 43; have hS := ‹Below w4.heap.size w4 _ ∧ _›.1; refine (toSlotS _ xs0 _ (HAaB.out.below (HB6.out.trans (hS.mono HB6.out.size))) (by omega)).mono ?_; rintro e w7 ⟨v7x0, bs7, rfl, ho7, lo7, hb7⟩; have hS6x0 := hS.trans (hb7.mono hS.size); clear hS; (first | (have q6x0 := KN6.out.below hb7 KN6.out.lt) | skip))
        | (go_at_call_of 24 (Value.agg #[Value.slice Aa1 xs1.length da1] : Value); have hS := ‹Below w4.heap.size w4 _ ∧ _›.1; refine (toMem _ xs1 _ (HAaM.out.below (HB6.out.trans (hS.mono HB6.out.size))) (by omega)).mono ?_; rintro e w8 ⟨v8x0, bs8, rfl, ho8, lo8, hb8⟩; have hS6x1 := hS.trans (hb8.mono hS.size); clear hS; (first | (have ho7 := ho7.below hb8) | (have ho7 := (ho7.below ((Below.refl _ w7).alloc (Nat.le_refl _) (.cells #[.slice none 0 0] 26))).below hb8)); (first | (have q6x1 := q6x0.below hb8 q6x0.lt) | (have q6x1 := (Bk.new w7 #[.slice none 0 0] 26).below hb8 (Bk.new w7 #[.slice none 0 0] 26).lt) | skip))
        | (go_at_call 37; have hS := ‹Below w4.heap.size w4 _ ∧ _›.1; refine (spec_DrainAll _ _ xs0 xs1 _ ho7.rd ho8.rd (by omega)).mono ?_; rintro e w9 ⟨v10x0, bs10, rfl, ho10, lo10, hb9⟩; have hS6x2 := hS.trans (hb9.mono hS.size); clear hS; obtain ⟨A10, d10, rfl, -, -⟩ := ho10.slice; (first | (have q6x2 := q6x1.below hb9 q6x1.lt) | (have q6x2 := (Bk.new w8 #[.slice none 0 0] 26).below hb9 (Bk.new w8 #[.slice none 0 0] 26).lt) | skip); try (obtain ⟨hq6, hg6⟩ := q6x2.at_ 0 (x := .slice none 0 0) rfl))
        | (go_at_call 37; have hS := ‹Below w4.heap.size w4 _ ∧ _›.1; refine (spec_DrainAll _ _ xs0 xs1 _ (ho7.below ((Below.refl _ w8).alloc (Nat.le_refl _) (.cells #[.slice none 0 0] 26))).rd (ho8.below ((Below.refl _ w8).alloc (Nat.le_refl _) (.cells #[.slice none 0 0] 26))).rd (by omega)).mono ?_; rintro e w9 ⟨v10x0, bs10, rfl, ho10, lo10, hb9⟩; have hS6x2 := hS.trans (hb9.mono hS.size); clear hS; obtain ⟨A10, d10, rfl, -, -⟩ := ho10.slice; (first | (have q6x2 := q6x1.below hb9 q6x1.lt) | (have q6x2 := (Bk.new w8 #[.slice none 0 0] 26).below hb9 (Bk.new w8 #[.slice none 0 0] 26).lt) | skip); try (obtain ⟨hq6, hg6⟩ := q6x2.at_ 0 (x := .slice none 0 0) rfl)))
    all_goals go_wp2_with fail
    all_goals go_meet
    all_goals (try have s6w7 := hS6x0.size)
    all_goals (try have s6w8 := hS6x1.size)
    all_goals (try have t6hb7 := hb7.size)
    all_goals (try simp at t6hb7)
    all_goals (try have t6hb8 := hb8.size)
    all_goals (try simp at t6hb8)
    all_goals (try have t6hb9 := hb9.size)
    all_goals (try simp at t6hb9)
    all_goals (first | exact ⟨A10, d10, bs10, _, rfl, rfl, ho10.below ((Below.refl _ _).alloc (Nat.le_refl _) _), fun b hb => Nat.le_trans (by first | omega | (simp; omega) | simp) (lo10 b hb), Bk.new _ _ _, hS6x2.size, hS6x2.alloc hS6x2.size _⟩ | exact ⟨A10, d10, bs10, _, rfl, rfl, ho10.far (fun k hk => by have := lo10 k hk; (try simp only [World.size_alloc] at this); omega), fun b hb => Nat.le_trans (by first | omega | (simp; omega) | simp) (lo10 b hb), by simpa using q6x2.set_ 0 (.slice A10 (daF xs0 xs1).length d10), by first | exact Nat.le_refl _ | omega, hS6x2.setCell (by first | exact Nat.le_refl _ | (show w4.heap.size ≤ _; omega)) _⟩)
  obtain ⟨A10, d10, bs10, g6, rfl, rfl, ho10, lo10, kg6, hgl6, hBc6⟩ := hcut
  rename World => wc6
  have hgt6 := kg6.lt
  clear HS6 KN6 HN6 HB6 nb6x1
  clear hc1x0 gc1x0 l1
  have sz11 := hBc6.size
  try simp only [World.size_alloc] at sz11
  have hB'''' := hB'''.trans (hBc6.mono hB'''.size)
  clear hB'''
  have k1''' := k1''.below hBc6 k1''.lt
  clear k1''
  have hi10 := ho10.lt
  obtain ⟨hc1x0, gc1x0⟩ := k1'''.at_ 0 (x := .slice Aa1 xs1.length da1) rfl
  have l1 := k1'''.lt
  obtain ⟨hc6x0, gc6x0⟩ := kg6.at_ 0 (x := .slice A10 (daF xs0 xs1).length d10) rfl
  have l6 := kg6.lt
  go_wp2_with fail
  refine (toSlotS _ xs0 _ (HAaB.out.below hB'''') (by omega)).mono ?_
  rintro e w12 ⟨v12x0, bs12, rfl, ho12, lo12, hb12⟩
  clear hc1x0 gc1x0 l1 hc6x0 gc6x0 l6
  have sz13 := hb12.size
  try simp only [World.size_alloc] at sz13
  have hB''''' := hB''''.trans (hb12.mono hB''''.size)
  clear hB''''
  have k1'''' := k1'''.below hb12 k1'''.lt
  clear k1'''
  have kg6' := kg6.below hb12 kg6.lt
  clear kg6
  have ho10' := ho10.below hb12
  clear ho10
  have hi12 := ho12.lt
  try simp only [World.size_alloc] at lo12
  obtain ⟨A12, d12, rfl, -, -⟩ := ho12.slice
  obtain ⟨hc1x0, gc1x0⟩ := k1''''.at_ 0 (x := .slice Aa1 xs1.length da1) rfl
  have l1 := k1''''.lt
  obtain ⟨hc6x0, gc6x0⟩ := kg6'.at_ 0 (x := .slice A10 (daF xs0 xs1).length d10) rfl
  have l6 := kg6'.lt
  go_wp2_with fail
  refine (toMem _ xs1 _ (HAaM.out.below hB''''') (by omega)).mono ?_
  rintro e w14 ⟨v14x0, bs14, rfl, ho14, lo14, hb14⟩
  clear hc1x0 gc1x0 l1 hc6x0 gc6x0 l6
  have sz15 := hb14.size
  try simp only [World.size_alloc] at sz15
  have hB'''''' := hB'''''.trans (hb14.mono hB'''''.size)
  clear hB'''''
  have k1''''' := k1''''.below hb14 k1''''.lt
  clear k1''''
  have kg6'' := kg6'.below hb14 kg6'.lt
  clear kg6'
  have ho10'' := ho10'.below hb14
  clear ho10'
  have ho12' := ho12.below hb14
  clear ho12
  have hi14 := ho14.lt
  try simp only [World.size_alloc] at lo14
  obtain ⟨A14, d14, rfl, -, -⟩ := ho14.slice
  obtain ⟨hc1x0, gc1x0⟩ := k1'''''.at_ 0 (x := .slice Aa1 xs1.length da1) rfl
  have l1 := k1'''''.lt
  obtain ⟨hc6x0, gc6x0⟩ := kg6''.at_ 0 (x := .slice A10 (daF xs0 xs1).length d10) rfl
  have l6 := kg6''.lt
  go_wp2_with fail
  clear hc1x0 gc1x0 l1 hc6x0 gc6x0 l6
  have k1'''''' := k1'''''.alloc (.cells #[.slice A14 xs1.length d14] 26)
  clear k1'''''
  have kg6''' := kg6''.alloc (.cells #[.slice A14 xs1.length d14] 26)
  clear kg6''
  have ho10''' := ho10''.below ((Below.refl _ _).alloc (Nat.le_refl _) (.cells #[.slice A14 xs1.length d14] 26))
  clear ho10''
  have ho12'' := ho12'.below ((Below.refl _ _).alloc (Nat.le_refl _) (.cells #[.slice A14 xs1.length d14] 26))
  clear ho12'
  have ho14' := ho14.below ((Below.refl _ _).alloc (Nat.le_refl _) (.cells #[.slice A14 xs1.length d14] 26))
  clear ho14
  have hB''''''' := hB''''''.alloc hB''''''.size (.cells #[.slice A14 xs1.length d14] 26)
  clear hB''''''
  have k16 := Bk.new w14 #[.slice A14 xs1.length d14] 26
  refine (impl_DrainAll _ _ xs0 xs1 _ ho12''.rd ho14'.rd (by omega)).mono ?_
  rintro e w17 ⟨v18x0, bs18, rfl, ho18, lo18, hb18⟩
  have sz19 := hb18.size
  try simp only [World.size_alloc] at sz19
  have hB'''''''' := hB'''''''.trans (hb18.mono hB'''''''.size)
  clear hB'''''''
  have k1''''''' := k1''''''.below hb18 k1''''''.lt
  clear k1''''''
  have kg6'''' := kg6'''.below hb18 kg6'''.lt
  clear kg6'''
  have k16' := k16.below hb18 k16.lt
  clear k16
  have ho10'''' := ho10'''.below hb18
  clear ho10'''
  have ho12''' := ho12''.below hb18
  clear ho12''
  have ho14'' := ho14'.below hb18
  clear ho14'
  have hi18 := ho18.lt
  try simp only [World.size_alloc] at lo18
  obtain ⟨A18, d18, rfl, -, -⟩ := ho18.slice
  obtain ⟨hc1x0, gc1x0⟩ := k1'''''''.at_ 0 (x := .slice Aa1 xs1.length da1) rfl
  have l1 := k1'''''''.lt
  obtain ⟨hc6x0, gc6x0⟩ := kg6''''.at_ 0 (x := .slice A10 (daF xs0 xs1).length d10) rfl
  have l6 := kg6''''.lt
  obtain ⟨hc16x0, gc16x0⟩ := k16'.at_ 0 (x := .slice A14 xs1.length d14) rfl
  have l16 := k16'.lt
  go_wp2_with fail
  clear hc1x0 gc1x0 l1 hc6x0 gc6x0 l6 hc16x0 gc16x0 l16
  have k1'''''''' := k1'''''''.alloc (.cells #[.slice A18 (daF xs0 xs1).length d18] 26)
  clear k1'''''''
  have kg6''''' := kg6''''.alloc (.cells #[.slice A18 (daF xs0 xs1).length d18] 26)
  clear kg6''''
  have k16'' := k16'.alloc (.cells #[.slice A18 (daF xs0 xs1).length d18] 26)
  clear k16'
  have ho10''''' := ho10''''.below ((Below.refl _ _).alloc (Nat.le_refl _) (.cells #[.slice A18 (daF xs0 xs1).length d18] 26))
  clear ho10''''
  have ho12'''' := ho12'''.below ((Below.refl _ _).alloc (Nat.le_refl _) (.cells #[.slice A18 (daF xs0 xs1).length d18] 26))
  clear ho12'''
  have ho14''' := ho14''.below ((Below.refl _ _).alloc (Nat.le_refl _) (.cells #[.slice A18 (daF xs0 xs1).length d18] 26))
  clear ho14''
  have ho18' := ho18.below ((Below.refl _ _).alloc (Nat.le_refl _) (.cells #[.slice A18 (daF xs0 xs1).length d18] 26))
  clear ho18
  have hB''''''''' := hB''''''''.alloc hB''''''''.size (.cells #[.slice A18 (daF xs0 xs1).length d18] 26)
  clear hB''''''''
  have k20 := Bk.new w17 #[.slice A18 (daF xs0 xs1).length d18] 26
  refine (eqMemB _ _ ((daF xs0 xs1)) ((daF xs0 xs1)) _ ho18'.rd ho10'''''.rd).mono ?_
  rintro e w21 ⟨rfl, hb21⟩
  rw [decide_eq_true rfl]
  have sz22 := hb21.size
  try simp only [World.size_alloc] at sz22
  have hB'''''''''' := hB'''''''''.trans (hb21.mono hB'''''''''.size)
  clear hB'''''''''
  have k1''''''''' := k1''''''''.below hb21 k1''''''''.lt
  clear k1''''''''
  have kg6'''''' := kg6'''''.below hb21 kg6'''''.lt
  clear kg6'''''
  have k16''' := k16''.below hb21 k16''.lt
  clear k16''
  have k20' := k20.below hb21 k20.lt
  clear k20
  have ho10'''''' := ho10'''''.below hb21
  clear ho10'''''
  have ho12''''' := ho12''''.below hb21
  clear ho12''''
  have ho14'''' := ho14'''.below hb21
  clear ho14'''
  have ho18'' := ho18'.below hb21
  clear ho18'
  obtain ⟨hc1x0, gc1x0⟩ := k1'''''''''.at_ 0 (x := .slice Aa1 xs1.length da1) rfl
  have l1 := k1'''''''''.lt
  obtain ⟨hc6x0, gc6x0⟩ := kg6''''''.at_ 0 (x := .slice A10 (daF xs0 xs1).length d10) rfl
  have l6 := kg6''''''.lt
  obtain ⟨hc16x0, gc16x0⟩ := k16'''.at_ 0 (x := .slice A14 xs1.length d14) rfl
  have l16 := k16'''.lt
  obtain ⟨hc20x0, gc20x0⟩ := k20'.at_ 0 (x := .slice A18 (daF xs0 xs1).length d18) rfl
  have l20 := k20'.lt
  go_wp2_with fail
  refine (toSlotS _ xs0 _ (HAaB.out.below hB'''''''''') (by omega)).mono ?_
  rintro e w23 ⟨v23x0, bs23, rfl, ho23, lo23, hb23⟩
  clear hc1x0 gc1x0 l1 hc6x0 gc6x0 l6 hc16x0 gc16x0 l16 hc20x0 gc20x0 l20
  have sz24 := hb23.size
  try simp only [World.size_alloc] at sz24
  have hB''''''''''' := hB''''''''''.trans (hb23.mono hB''''''''''.size)
  clear hB''''''''''
  have k1'''''''''' := k1'''''''''.below hb23 k1'''''''''.lt
  clear k1'''''''''
  have kg6''''''' := kg6''''''.below hb23 kg6''''''.lt
  clear kg6''''''
  have k16'''' := k16'''.below hb23 k16'''.lt
  clear k16'''
  have k20'' := k20'.below hb23 k20'.lt
  clear k20'
  have ho10''''''' := ho10''''''.below hb23
  clear ho10''''''
  have ho12'''''' := ho12'''''.below hb23
  clear ho12'''''
  have ho14''''' := ho14''''.below hb23
  clear ho14''''
  have ho18''' := ho18''.below hb23
  clear ho18''
  have hi23 := ho23.lt
  try simp only [World.size_alloc] at lo23
  obtain ⟨A23, d23, rfl, -, -⟩ := ho23.slice
  obtain ⟨hc1x0, gc1x0⟩ := k1''''''''''.at_ 0 (x := .slice Aa1 xs1.length da1) rfl
  have l1 := k1''''''''''.lt
  obtain ⟨hc6x0, gc6x0⟩ := kg6'''''''.at_ 0 (x := .slice A10 (daF xs0 xs1).length d10) rfl
  have l6 := kg6'''''''.lt
  obtain ⟨hc16x0, gc16x0⟩ := k16''''.at_ 0 (x := .slice A14 xs1.length d14) rfl
  have l16 := k16''''.lt
  obtain ⟨hc20x0, gc20x0⟩ := k20''.at_ 0 (x := .slice A18 (daF xs0 xs1).length d18) rfl
  have l20 := k20''.lt
  go_wp2_with fail
  refine (eqSlotS _ _ (xs0) (xs0) _ ho12''''''.rd ho23.rd).mono ?_
  rintro e w25 ⟨rfl, hb25⟩
  rw [decide_eq_true rfl]
  clear hc1x0 gc1x0 l1 hc6x0 gc6x0 l6 hc16x0 gc16x0 l16 hc20x0 gc20x0 l20
  have sz26 := hb25.size
  try simp only [World.size_alloc] at sz26
  have hB'''''''''''' := hB'''''''''''.trans (hb25.mono hB'''''''''''.size)
  clear hB'''''''''''
  have k1''''''''''' := k1''''''''''.below hb25 k1''''''''''.lt
  clear k1''''''''''
  have kg6'''''''' := kg6'''''''.below hb25 kg6'''''''.lt
  clear kg6'''''''
  have k16''''' := k16''''.below hb25 k16''''.lt
  clear k16''''
  have k20''' := k20''.below hb25 k20''.lt
  clear k20''
  have ho10'''''''' := ho10'''''''.below hb25
  clear ho10'''''''
  have ho12''''''' := ho12''''''.below hb25
  clear ho12''''''
  have ho14'''''' := ho14'''''.below hb25
  clear ho14'''''
  have ho18'''' := ho18'''.below hb25
  clear ho18'''
  have ho23' := ho23.below hb25
  clear ho23
  obtain ⟨hc1x0, gc1x0⟩ := k1'''''''''''.at_ 0 (x := .slice Aa1 xs1.length da1) rfl
  have l1 := k1'''''''''''.lt
  obtain ⟨hc6x0, gc6x0⟩ := kg6''''''''.at_ 0 (x := .slice A10 (daF xs0 xs1).length d10) rfl
  have l6 := kg6''''''''.lt
  obtain ⟨hc16x0, gc16x0⟩ := k16'''''.at_ 0 (x := .slice A14 xs1.length d14) rfl
  have l16 := k16'''''.lt
  obtain ⟨hc20x0, gc20x0⟩ := k20'''.at_ 0 (x := .slice A18 (daF xs0 xs1).length d18) rfl
  have l20 := k20'''.lt
  go_wp2_with fail
  clear hc1x0 gc1x0 l1 hc6x0 gc6x0 l6 hc16x0 gc16x0 l16 hc20x0 gc20x0 l20
  obtain ⟨hc1x0, gc1x0⟩ := k1'''''''''''.at_ 0 (x := .slice Aa1 xs1.length da1) rfl
  have l1 := k1'''''''''''.lt
  obtain ⟨hc6x0, gc6x0⟩ := kg6''''''''.at_ 0 (x := .slice A10 (daF xs0 xs1).length d10) rfl
  have l6 := kg6''''''''.lt
  obtain ⟨hc16x0, gc16x0⟩ := k16'''''.at_ 0 (x := .slice A14 xs1.length d14) rfl
  have l16 := k16'''''.lt
  obtain ⟨hc20x0, gc20x0⟩ := k20'''.at_ 0 (x := .slice A18 (daF xs0 xs1).length d18) rfl
  have l20 := k20'''.lt
  have HS28 : Hid (∀ W : World, Below w25.heap.size w25 W → Below w25.heap.size w25 W ∧ W.cell? ⟨w14.heap.size, 0, none⟩ = some (.slice A14 xs1.length d14) ∧ W.cell? ⟨w.heap.size, 0, none⟩ = some (.slice Aa1 xs1.length da1)) := Lib.hid fun W hW => ⟨hW, (hW.cell (p := ⟨w14.heap.size, 0, none⟩) k16'''''.lt).trans hc16x0, (hW.cell (p := ⟨w.heap.size, 0, none⟩) k1'''''''''''.lt).trans hc1x0⟩
  have HhB____________ := Lib.hid hB''''''''''''
  have Hho10________ := Lib.hid ho10''''''''
  have Hho12_______ := Lib.hid ho12'''''''
  have Hho14______ := Lib.hid ho14''''''
  have Hho18____ := Lib.hid ho18''''
  have Hho23_ := Lib.hid ho23'
  go_region_held3 (fun W => Below w25.heap.size w25 W ∧ W.cell? ⟨w14.heap.size, 0, none⟩ = some (.slice A14 xs1.length d14) ∧ W.cell? ⟨w.heap.size, 0, none⟩ = some (.slice Aa1 xs1.length da1)) (first | (exact HS28.out _ (Below.refl _ _).drew) | (exact HS28.out _ (by assumption)))
    (first
      | (go_at_call 24; have hS := ‹Below w25.heap.size w25 _ ∧ _›.1; refine (toMem _ xs1 _ (HAaM.out.below (HhB____________.out.trans (hS.mono HhB____________.out.size))) (by omega)).mono ?_; rintro e wa27 ⟨vv0, bsw, rfl, how, low, hbw27⟩; have HO27 := Lib.hid how; clear how low; have hS28x0 := hS.trans (hbw27.mono hS.size); clear hS)
      | (go_at_call 25; have hS := ‹Below w25.heap.size w25 _ ∧ _›.1; refine (eqMemB _ _ (xs1) (xs1) _ (Hho14______.out.below hS).rd HO27.out.rd).mono ?_; rintro e w27 ⟨rfl, hbe27⟩; have hS28x1 := hS.trans (hbe27.mono hS.size); clear hS))
  have hS28 := ‹Below w25.heap.size w25 _ ∧ _›.1
  clear HS28 HhB____________ Hho10________ Hho12_______ Hho14______ Hho18____ Hho23_
  clear hc1x0 gc1x0 l1 hc6x0 gc6x0 l6 hc16x0 gc16x0 l16 hc20x0 gc20x0 l20
  have sz29 := hS28.size
  try simp only [World.size_alloc] at sz29
  have hB''''''''''''' := hB''''''''''''.trans (hS28.mono hB''''''''''''.size)
  clear hB''''''''''''
  have k1'''''''''''' := k1'''''''''''.below hS28 k1'''''''''''.lt
  clear k1'''''''''''
  have kg6''''''''' := kg6''''''''.below hS28 kg6''''''''.lt
  clear kg6''''''''
  have k16'''''' := k16'''''.below hS28 k16'''''.lt
  clear k16'''''
  have k20'''' := k20'''.below hS28 k20'''.lt
  clear k20'''
  have ho10''''''''' := ho10''''''''.below hS28
  clear ho10''''''''
  have ho12'''''''' := ho12'''''''.below hS28
  clear ho12'''''''
  have ho14''''''' := ho14''''''.below hS28
  clear ho14''''''
  have ho18''''' := ho18''''.below hS28
  clear ho18''''
  have ho23'' := ho23'.below hS28
  clear ho23'
  clear hS28
  clear HO27
  obtain ⟨hc1x0, gc1x0⟩ := k1''''''''''''.at_ 0 (x := .slice Aa1 xs1.length da1) rfl
  have l1 := k1''''''''''''.lt
  obtain ⟨hc6x0, gc6x0⟩ := kg6'''''''''.at_ 0 (x := .slice A10 (daF xs0 xs1).length d10) rfl
  have l6 := kg6'''''''''.lt
  obtain ⟨hc16x0, gc16x0⟩ := k16''''''.at_ 0 (x := .slice A14 xs1.length d14) rfl
  have l16 := k16''''''.lt
  obtain ⟨hc20x0, gc20x0⟩ := k20''''.at_ 0 (x := .slice A18 (daF xs0 xs1).length d18) rfl
  have l20 := k20''''.lt
  go_wp2_with fail
  refine (markSlotS _ _ xs0.length bs12 (1) _ ho12'''''''' (by omega) (by omega) (by omega)).mono ?_
  rintro e w30 ⟨rfl, hq30, hon30⟩
  clear hc1x0 gc1x0 l1 hc6x0 gc6x0 l6 hc16x0 gc16x0 l16 hc20x0 gc20x0 l20
  have sz31 := hon30.size
  try simp only [World.size_alloc] at sz31
  have hB'''''''''''''' := hB'''''''''''''.trans (hon30.below hB'''''''''''''.size (fun b hb => by have := lo12 b hb; omega))
  clear hB'''''''''''''
  have k1''''''''''''' := k1''''''''''''.only hon30 (fun hm => by have := lo12 _ hm; have := hi12 _ hm; omega)
  clear k1''''''''''''
  have kg6'''''''''' := kg6'''''''''.only hon30 (fun hm => by have := lo12 _ hm; have := hi12 _ hm; omega)
  clear kg6'''''''''
  have k16''''''' := k16''''''.only hon30 (fun hm => by have := lo12 _ hm; have := hi12 _ hm; omega)
  clear k16''''''
  have k20''''' := k20''''.only hon30 (fun hm => by have := lo12 _ hm; have := hi12 _ hm; omega)
  clear k20''''
  have ho10'''''''''' := ho10'''''''''.only hon30 (fun b hb hm => by have := lo12 b hm; have := hi12 b hm; have := lo10 b hb; have := hi10 b hb; omega)
  clear ho10'''''''''
  have ho14'''''''' := ho14'''''''.only hon30 (fun b hb hm => by have := lo12 b hm; have := hi12 b hm; have := lo14 b hb; have := hi14 b hb; omega)
  clear ho14'''''''
  have ho18'''''' := ho18'''''.only hon30 (fun b hb hm => by have := lo12 b hm; have := hi12 b hm; have := lo18 b hb; have := hi18 b hb; omega)
  clear ho18'''''
  have ho23''' := ho23''.only hon30 (fun b hb hm => by have := lo12 b hm; have := hi12 b hm; have := lo23 b hb; have := hi23 b hb; omega)
  clear ho23''
  obtain ⟨hc1x0, gc1x0⟩ := k1'''''''''''''.at_ 0 (x := .slice Aa1 xs1.length da1) rfl
  have l1 := k1'''''''''''''.lt
  obtain ⟨hc6x0, gc6x0⟩ := kg6''''''''''.at_ 0 (x := .slice A10 (daF xs0 xs1).length d10) rfl
  have l6 := kg6''''''''''.lt
  obtain ⟨hc16x0, gc16x0⟩ := k16'''''''.at_ 0 (x := .slice A14 xs1.length d14) rfl
  have l16 := k16'''''''.lt
  obtain ⟨hc20x0, gc20x0⟩ := k20'''''.at_ 0 (x := .slice A18 (daF xs0 xs1).length d18) rfl
  have l20 := k20'''''.lt
  go_wp2_with fail
  refine (markMem _ xs1 bs14 (1 + (xs0.length : Int) * 2) _ ho14'''''''' (by omega) (by omega) (by omega)).mono ?_
  rintro e w32 ⟨rfl, hq32, hon32⟩
  clear hc1x0 gc1x0 l1 hc6x0 gc6x0 l6 hc16x0 gc16x0 l16 hc20x0 gc20x0 l20
  have sz33 := hon32.size
  try simp only [World.size_alloc] at sz33
  have hB''''''''''''''' := hB''''''''''''''.trans (hon32.below hB''''''''''''''.size (fun b hb => by have := lo14 b hb; omega))
  clear hB''''''''''''''
  have k1'''''''''''''' := k1'''''''''''''.only hon32 (fun hm => by have := lo14 _ hm; have := hi14 _ hm; omega)
  clear k1'''''''''''''
  have kg6''''''''''' := kg6''''''''''.only hon32 (fun hm => by have := lo14 _ hm; have := hi14 _ hm; omega)
  clear kg6''''''''''
  have k16'''''''' := k16'''''''.only hon32 (fun hm => by have := lo14 _ hm; have := hi14 _ hm; omega)
  clear k16'''''''
  have k20'''''' := k20'''''.only hon32 (fun hm => by have := lo14 _ hm; have := hi14 _ hm; omega)
  clear k20'''''
  have ho10''''''''''' := ho10''''''''''.only hon32 (fun b hb hm => by have := lo14 b hm; have := hi14 b hm; have := lo10 b hb; have := hi10 b hb; omega)
  clear ho10''''''''''
  have hq30' := hq30.only hon32 (fun b hb hm => by have := lo14 b hm; have := hi14 b hm; have := lo12 b hb; have := hi12 b hb; omega)
  clear hq30
  have ho18''''''' := ho18''''''.only hon32 (fun b hb hm => by have := lo14 b hm; have := hi14 b hm; have := lo18 b hb; have := hi18 b hb; omega)
  clear ho18''''''
  have ho23'''' := ho23'''.only hon32 (fun b hb hm => by have := lo14 b hm; have := hi14 b hm; have := lo23 b hb; have := hi23 b hb; omega)
  clear ho23'''
  obtain ⟨hc1x0, gc1x0⟩ := k1''''''''''''''.at_ 0 (x := .slice Aa1 xs1.length da1) rfl
  have l1 := k1''''''''''''''.lt
  obtain ⟨hc6x0, gc6x0⟩ := kg6'''''''''''.at_ 0 (x := .slice A10 (daF xs0 xs1).length d10) rfl
  have l6 := kg6'''''''''''.lt
  obtain ⟨hc16x0, gc16x0⟩ := k16''''''''.at_ 0 (x := .slice A14 xs1.length d14) rfl
  have l16 := k16''''''''.lt
  obtain ⟨hc20x0, gc20x0⟩ := k20''''''.at_ 0 (x := .slice A18 (daF xs0 xs1).length d18) rfl
  have l20 := k20''''''.lt
  go_wp2_with fail
  refine (eqMemB _ _ ((daF xs0 xs1)) ((daF xs0 xs1)) _ ho18'''''''.rd ho10'''''''''''.rd).mono ?_
  rintro e w34 ⟨rfl, hb34⟩
  rw [decide_eq_true rfl]
  clear hc1x0 gc1x0 l1 hc6x0 gc6x0 l6 hc16x0 gc16x0 l16 hc20x0 gc20x0 l20
  have sz35 := hb34.size
  try simp only [World.size_alloc] at sz35
  have hB'''''''''''''''' := hB'''''''''''''''.trans (hb34.mono hB'''''''''''''''.size)
  clear hB'''''''''''''''
  have k1''''''''''''''' := k1''''''''''''''.below hb34 k1''''''''''''''.lt
  clear k1''''''''''''''
  have kg6'''''''''''' := kg6'''''''''''.below hb34 kg6'''''''''''.lt
  clear kg6'''''''''''
  have k16''''''''' := k16''''''''.below hb34 k16''''''''.lt
  clear k16''''''''
  have k20''''''' := k20''''''.below hb34 k20''''''.lt
  clear k20''''''
  have ho10'''''''''''' := ho10'''''''''''.below hb34
  clear ho10'''''''''''
  have hq30'' := hq30'.below hb34
  clear hq30'
  have hq32' := hq32.below hb34
  clear hq32
  have ho18'''''''' := ho18'''''''.below hb34
  clear ho18'''''''
  have ho23''''' := ho23''''.below hb34
  clear ho23''''
  obtain ⟨hc1x0, gc1x0⟩ := k1'''''''''''''''.at_ 0 (x := .slice Aa1 xs1.length da1) rfl
  have l1 := k1'''''''''''''''.lt
  obtain ⟨hc6x0, gc6x0⟩ := kg6''''''''''''.at_ 0 (x := .slice A10 (daF xs0 xs1).length d10) rfl
  have l6 := kg6''''''''''''.lt
  obtain ⟨hc16x0, gc16x0⟩ := k16'''''''''.at_ 0 (x := .slice A14 xs1.length d14) rfl
  have l16 := k16'''''''''.lt
  obtain ⟨hc20x0, gc20x0⟩ := k20'''''''.at_ 0 (x := .slice A18 (daF xs0 xs1).length d18) rfl
  have l20 := k20'''''''.lt
  go_wp2_with fail
  refine (markMem _ (daF xs0 xs1) bs18 (1) _ ho18'''''''' (by omega) (by omega) (by omega)).mono ?_
  rintro e w36 ⟨rfl, hq36, hon36⟩
  clear hc1x0 gc1x0 l1 hc6x0 gc6x0 l6 hc16x0 gc16x0 l16 hc20x0 gc20x0 l20
  have sz37 := hon36.size
  try simp only [World.size_alloc] at sz37
  have hB''''''''''''''''' := hB''''''''''''''''.trans (hon36.below hB''''''''''''''''.size (fun b hb => by have := lo18 b hb; omega))
  clear hB''''''''''''''''
  have k1'''''''''''''''' := k1'''''''''''''''.only hon36 (fun hm => by have := lo18 _ hm; have := hi18 _ hm; omega)
  clear k1'''''''''''''''
  have kg6''''''''''''' := kg6''''''''''''.only hon36 (fun hm => by have := lo18 _ hm; have := hi18 _ hm; omega)
  clear kg6''''''''''''
  have k16'''''''''' := k16'''''''''.only hon36 (fun hm => by have := lo18 _ hm; have := hi18 _ hm; omega)
  clear k16'''''''''
  have k20'''''''' := k20'''''''.only hon36 (fun hm => by have := lo18 _ hm; have := hi18 _ hm; omega)
  clear k20'''''''
  have ho10''''''''''''' := ho10''''''''''''.only hon36 (fun b hb hm => by have := lo18 b hm; have := hi18 b hm; have := lo10 b hb; have := hi10 b hb; omega)
  clear ho10''''''''''''
  have hq30''' := hq30''.only hon36 (fun b hb hm => by have := lo18 b hm; have := hi18 b hm; have := lo12 b hb; have := hi12 b hb; omega)
  clear hq30''
  have hq32'' := hq32'.only hon36 (fun b hb hm => by have := lo18 b hm; have := hi18 b hm; have := lo14 b hb; have := hi14 b hb; omega)
  clear hq32'
  have ho23'''''' := ho23'''''.only hon36 (fun b hb hm => by have := lo18 b hm; have := hi18 b hm; have := lo23 b hb; have := hi23 b hb; omega)
  clear ho23'''''
  obtain ⟨hc1x0, gc1x0⟩ := k1''''''''''''''''.at_ 0 (x := .slice Aa1 xs1.length da1) rfl
  have l1 := k1''''''''''''''''.lt
  obtain ⟨hc6x0, gc6x0⟩ := kg6'''''''''''''.at_ 0 (x := .slice A10 (daF xs0 xs1).length d10) rfl
  have l6 := kg6'''''''''''''.lt
  obtain ⟨hc16x0, gc16x0⟩ := k16''''''''''.at_ 0 (x := .slice A14 xs1.length d14) rfl
  have l16 := k16''''''''''.lt
  obtain ⟨hc20x0, gc20x0⟩ := k20''''''''.at_ 0 (x := .slice A18 (daF xs0 xs1).length d18) rfl
  have l20 := k20''''''''.lt
  go_wp2_with fail
  refine (heldMem _ (daF xs0 xs1).length (1) _ hq36.rd (by omega) (by omega) (by omega)).mono ?_
  rintro e w38 ⟨rfl, hb38⟩
  clear hc1x0 gc1x0 l1 hc6x0 gc6x0 l6 hc16x0 gc16x0 l16 hc20x0 gc20x0 l20
  have sz39 := hb38.size
  try simp only [World.size_alloc] at sz39
  have hB'''''''''''''''''' := hB'''''''''''''''''.trans (hb38.mono hB'''''''''''''''''.size)
  clear hB'''''''''''''''''
  have k1''''''''''''''''' := k1''''''''''''''''.below hb38 k1''''''''''''''''.lt
  clear k1''''''''''''''''
  have kg6'''''''''''''' := kg6'''''''''''''.below hb38 kg6'''''''''''''.lt
  clear kg6'''''''''''''
  have k16''''''''''' := k16''''''''''.below hb38 k16''''''''''.lt
  clear k16''''''''''
  have k20''''''''' := k20''''''''.below hb38 k20''''''''.lt
  clear k20''''''''
  have ho10'''''''''''''' := ho10'''''''''''''.below hb38
  clear ho10'''''''''''''
  have hq30'''' := hq30'''.below hb38
  clear hq30'''
  have hq32''' := hq32''.below hb38
  clear hq32''
  have hq36' := hq36.below hb38
  clear hq36
  have ho23''''''' := ho23''''''.below hb38
  clear ho23''''''
  obtain ⟨hc1x0, gc1x0⟩ := k1'''''''''''''''''.at_ 0 (x := .slice Aa1 xs1.length da1) rfl
  have l1 := k1'''''''''''''''''.lt
  obtain ⟨hc6x0, gc6x0⟩ := kg6''''''''''''''.at_ 0 (x := .slice A10 (daF xs0 xs1).length d10) rfl
  have l6 := kg6''''''''''''''.lt
  obtain ⟨hc16x0, gc16x0⟩ := k16'''''''''''.at_ 0 (x := .slice A14 xs1.length d14) rfl
  have l16 := k16'''''''''''.lt
  obtain ⟨hc20x0, gc20x0⟩ := k20'''''''''.at_ 0 (x := .slice A18 (daF xs0 xs1).length d18) rfl
  have l20 := k20'''''''''.lt
  go_wp2_with fail
  clear hc1x0 gc1x0 l1 hc6x0 gc6x0 l6 hc16x0 gc16x0 l16 hc20x0 gc20x0 l20
  obtain ⟨hc1x0, gc1x0⟩ := k1'''''''''''''''''.at_ 0 (x := .slice Aa1 xs1.length da1) rfl
  have l1 := k1'''''''''''''''''.lt
  obtain ⟨hc6x0, gc6x0⟩ := kg6''''''''''''''.at_ 0 (x := .slice A10 (daF xs0 xs1).length d10) rfl
  have l6 := kg6''''''''''''''.lt
  obtain ⟨hc16x0, gc16x0⟩ := k16'''''''''''.at_ 0 (x := .slice A14 xs1.length d14) rfl
  have l16 := k16'''''''''''.lt
  obtain ⟨hc20x0, gc20x0⟩ := k20'''''''''.at_ 0 (x := .slice A18 (daF xs0 xs1).length d18) rfl
  have l20 := k20'''''''''.lt
  have HS40 : Hid (∀ W : World, Below w38.heap.size w38 W → Below w38.heap.size w38 W ∧ W.cell? ⟨w.heap.size, 0, none⟩ = some (.slice Aa1 xs1.length da1)) := Lib.hid fun W hW => ⟨hW, (hW.cell (p := ⟨w.heap.size, 0, none⟩) k1'''''''''''''''''.lt).trans hc1x0⟩
  have KN40 : Hid (Bk ((w38.alloc (.cells #[.slice none 0 0] 26)).drew) w38.heap.size #[.slice none 0 0] 26) := Lib.hid (Bk.new w38 #[.slice none 0 0] 26)
  have HN40 : Hid (Below w38.heap.size w38 (w38.alloc (.cells #[.slice none 0 0] 26)).drew) := Lib.hid ((Below.refl _ w38).alloc (Nat.le_refl _) _).drew
  have HB40 := Lib.hid hB''''''''''''''''''
  have nb40x1 : w.heap.size ≠ w38.heap.size := by have := k1'''''''''''''''''.lt; omega
  go_cut [15, 16] (fun p40x0 p40x1 wz => ∃ (A44 : Option Addr) (d44 : Nat) (bs44 : List Nat) (g40 : Nat), p40x0 = .pointer (some ⟨g40, 0, none⟩) ∧ p40x1 = .bool (daOk xs0 xs1) ∧ Own wz (.slice A44 (daF xs0 xs1).length d44) 1 (daF xs0 xs1).length (ints (daF xs0 xs1)) bs44 ∧ (∀ b ∈ bs44, w38.heap.size ≤ b) ∧ Bk wz g40 #[.slice A44 (daF xs0 xs1).length d44] 26 ∧ w38.heap.size ≤ g40 ∧ Below w38.heap.size w38 wz)
  case first =>
    go_region_held3 (fun W => Below w38.heap.size w38 W ∧ W.cell? ⟨w.heap.size, 0, none⟩ = some (.slice Aa1 xs1.length da1)) (first | (exact HS40.out _ (Below.refl _ _).drew) | (exact HS40.out _ HN40.out) | (exact HS40.out _ (hS40x0.alloc hS40x0.size _)) | (exact HS40.out _ (hS40x1.alloc hS40x1.size _)) | (exact HS40.out _ (hS40x2.alloc hS40x2.size _)) | (exact HS40.out _ (hS40x2.setCell (Nat.le_refl _) _)) | (exact HS40.out _ (hS40x2.setCell hS40x0.size _)) | (exact HS40.out _ (hS40x2.setCell hS40x1.size _)) | (exact HS40.out _ (hS40x2.setCell hS40x2.size _)) | (exact HS40.out _ (by assumption)))
      (first
        | (go_at_call 43; have hS := ‹Below w38.heap.size w38 _ ∧ _›.1; refine (toSlotS _ xs0 _ (HAaB.out.below (HB40.out.trans (hS.mono HB40.out.size))) (by omega)).mono ?_; rintro e w41 ⟨v41x0, bs41, rfl, ho41, lo41, hb41⟩; have hS40x0 := hS.trans (hb41.mono hS.size); clear hS; (first | (have q40x0 := KN40.out.below hb41 KN40.out.lt) | skip))
        | (go_at_call_of 24 (Value.agg #[Value.slice Aa1 xs1.length da1] : Value); have hS := ‹Below w38.heap.size w38 _ ∧ _›.1; refine (toMem _ xs1 _ (HAaM.out.below (HB40.out.trans (hS.mono HB40.out.size))) (by omega)).mono ?_; rintro e w42 ⟨v42x0, bs42, rfl, ho42, lo42, hb42⟩; have hS40x1 := hS.trans (hb42.mono hS.size); clear hS; (first | (have ho41 := ho41.below hb42) | (have ho41 := (ho41.below ((Below.refl _ w41).alloc (Nat.le_refl _) (.cells #[.slice none 0 0] 26))).below hb42)); (first | (have q40x1 := q40x0.below hb42 q40x0.lt) | (have q40x1 := (Bk.new w41 #[.slice none 0 0] 26).below hb42 (Bk.new w41 #[.slice none 0 0] 26).lt) | skip))
        | (go_at_call 38; have hS := ‹Below w38.heap.size w38 _ ∧ _›.1; refine (impl_DrainAll _ _ xs0 xs1 _ ho41.rd ho42.rd (by omega)).mono ?_; rintro e w43 ⟨v44x0, bs44, rfl, ho44, lo44, hb43⟩; have hS40x2 := hS.trans (hb43.mono hS.size); clear hS; obtain ⟨A44, d44, rfl, -, -⟩ := ho44.slice; (first | (have q40x2 := q40x1.below hb43 q40x1.lt) | (have q40x2 := (Bk.new w42 #[.slice none 0 0] 26).below hb43 (Bk.new w42 #[.slice none 0 0] 26).lt) | skip); try (obtain ⟨hq40, hg40⟩ := q40x2.at_ 0 (x := .slice none 0 0) rfl))
        | (go_at_call 38; have hS := ‹Below w38.heap.size w38 _ ∧ _›.1; refine (impl_DrainAll _ _ xs0 xs1 _ (ho41.below ((Below.refl _ w42).alloc (Nat.le_refl _) (.cells #[.slice none 0 0] 26))).rd (ho42.below ((Below.refl _ w42).alloc (Nat.le_refl _) (.cells #[.slice none 0 0] 26))).rd (by omega)).mono ?_; rintro e w43 ⟨v44x0, bs44, rfl, ho44, lo44, hb43⟩; have hS40x2 := hS.trans (hb43.mono hS.size); clear hS; obtain ⟨A44, d44, rfl, -, -⟩ := ho44.slice; (first | (have q40x2 := q40x1.below hb43 q40x1.lt) | (have q40x2 := (Bk.new w42 #[.slice none 0 0] 26).below hb43 (Bk.new w42 #[.slice none 0 0] 26).lt) | skip); try (obtain ⟨hq40, hg40⟩ := q40x2.at_ 0 (x := .slice none 0 0) rfl)))
    all_goals go_wp2_with fail
    all_goals go_meet
    all_goals (try have s40w41 := hS40x0.size)
    all_goals (try have s40w42 := hS40x1.size)
    all_goals (try have t40hb41 := hb41.size)
    all_goals (try simp at t40hb41)
    all_goals (try have t40hb42 := hb42.size)
    all_goals (try simp at t40hb42)
    all_goals (try have t40hb43 := hb43.size)
    all_goals (try simp at t40hb43)
    all_goals (first | exact ⟨A44, d44, bs44, _, rfl, rfl, ho44.below ((Below.refl _ _).alloc (Nat.le_refl _) _), fun b hb => Nat.le_trans (by first | omega | (simp; omega) | simp) (lo44 b hb), Bk.new _ _ _, hS40x2.size, hS40x2.alloc hS40x2.size _⟩ | exact ⟨A44, d44, bs44, _, rfl, rfl, ho44.far (fun k hk => by have := lo44 k hk; (try simp only [World.size_alloc] at this); omega), fun b hb => Nat.le_trans (by first | omega | (simp; omega) | simp) (lo44 b hb), by simpa using q40x2.set_ 0 (.slice A44 (daF xs0 xs1).length d44), by first | exact Nat.le_refl _ | omega, hS40x2.setCell (by first | exact Nat.le_refl _ | (show w38.heap.size ≤ _; omega)) _⟩)
  obtain ⟨A44, d44, bs44, g40, rfl, rfl, ho44, lo44, kg40, hgl40, hBc40⟩ := hcut
  rename World => wc40
  have hgt40 := kg40.lt
  clear HS40 KN40 HN40 HB40 nb40x1
  clear hc1x0 gc1x0 l1 hc6x0 gc6x0 l6 hc16x0 gc16x0 l16 hc20x0 gc20x0 l20
  have sz45 := hBc40.size
  try simp only [World.size_alloc] at sz45
  have hB''''''''''''''''''' := hB''''''''''''''''''.trans (hBc40.mono hB''''''''''''''''''.size)
  clear hB''''''''''''''''''
  have k1'''''''''''''''''' := k1'''''''''''''''''.below hBc40 k1'''''''''''''''''.lt
  clear k1'''''''''''''''''
  have kg6''''''''''''''' := kg6''''''''''''''.below hBc40 kg6''''''''''''''.lt
  clear kg6''''''''''''''
  have k16'''''''''''' := k16'''''''''''.below hBc40 k16'''''''''''.lt
  clear k16'''''''''''
  have k20'''''''''' := k20'''''''''.below hBc40 k20'''''''''.lt
  clear k20'''''''''
  have ho10''''''''''''''' := ho10''''''''''''''.below hBc40
  clear ho10''''''''''''''
  have hq30''''' := hq30''''.below hBc40
  clear hq30''''
  have hq32'''' := hq32'''.below hBc40
  clear hq32'''
  have hq36'' := hq36'.below hBc40
  clear hq36'
  have ho23'''''''' := ho23'''''''.below hBc40
  clear ho23'''''''
  have hi44 := ho44.lt
  obtain ⟨hc1x0, gc1x0⟩ := k1''''''''''''''''''.at_ 0 (x := .slice Aa1 xs1.length da1) rfl
  have l1 := k1''''''''''''''''''.lt
  obtain ⟨hc6x0, gc6x0⟩ := kg6'''''''''''''''.at_ 0 (x := .slice A10 (daF xs0 xs1).length d10) rfl
  have l6 := kg6'''''''''''''''.lt
  obtain ⟨hc16x0, gc16x0⟩ := k16''''''''''''.at_ 0 (x := .slice A14 xs1.length d14) rfl
  have l16 := k16''''''''''''.lt
  obtain ⟨hc20x0, gc20x0⟩ := k20''''''''''.at_ 0 (x := .slice A18 (daF xs0 xs1).length d18) rfl
  have l20 := k20''''''''''.lt
  obtain ⟨hc40x0, gc40x0⟩ := kg40.at_ 0 (x := .slice A44 (daF xs0 xs1).length d44) rfl
  have l40 := kg40.lt
  go_wp2_with fail
  refine (eqMemB _ _ ((daF xs0 xs1)) ((daF xs0 xs1)) _ ho44.rd ho10'''''''''''''''.rd).mono ?_
  rintro e w46 ⟨rfl, hb46⟩
  rw [decide_eq_true rfl]
  clear hc1x0 gc1x0 l1 hc6x0 gc6x0 l6 hc16x0 gc16x0 l16 hc20x0 gc20x0 l20 hc40x0 gc40x0 l40
  have sz47 := hb46.size
  try simp only [World.size_alloc] at sz47
  have hB'''''''''''''''''''' := hB'''''''''''''''''''.trans (hb46.mono hB'''''''''''''''''''.size)
  clear hB'''''''''''''''''''
  have k1''''''''''''''''''' := k1''''''''''''''''''.below hb46 k1''''''''''''''''''.lt
  clear k1''''''''''''''''''
  have kg6'''''''''''''''' := kg6'''''''''''''''.below hb46 kg6'''''''''''''''.lt
  clear kg6'''''''''''''''
  have k16''''''''''''' := k16''''''''''''.below hb46 k16''''''''''''.lt
  clear k16''''''''''''
  have k20''''''''''' := k20''''''''''.below hb46 k20''''''''''.lt
  clear k20''''''''''
  have kg40' := kg40.below hb46 kg40.lt
  clear kg40
  have ho10'''''''''''''''' := ho10'''''''''''''''.below hb46
  clear ho10'''''''''''''''
  have hq30'''''' := hq30'''''.below hb46
  clear hq30'''''
  have hq32''''' := hq32''''.below hb46
  clear hq32''''
  have hq36''' := hq36''.below hb46
  clear hq36''
  have ho23''''''''' := ho23''''''''.below hb46
  clear ho23''''''''
  have ho44' := ho44.below hb46
  clear ho44
  obtain ⟨hc1x0, gc1x0⟩ := k1'''''''''''''''''''.at_ 0 (x := .slice Aa1 xs1.length da1) rfl
  have l1 := k1'''''''''''''''''''.lt
  obtain ⟨hc6x0, gc6x0⟩ := kg6''''''''''''''''.at_ 0 (x := .slice A10 (daF xs0 xs1).length d10) rfl
  have l6 := kg6''''''''''''''''.lt
  obtain ⟨hc16x0, gc16x0⟩ := k16'''''''''''''.at_ 0 (x := .slice A14 xs1.length d14) rfl
  have l16 := k16'''''''''''''.lt
  obtain ⟨hc20x0, gc20x0⟩ := k20'''''''''''.at_ 0 (x := .slice A18 (daF xs0 xs1).length d18) rfl
  have l20 := k20'''''''''''.lt
  obtain ⟨hc40x0, gc40x0⟩ := kg40'.at_ 0 (x := .slice A44 (daF xs0 xs1).length d44) rfl
  have l40 := kg40'.lt
  go_wp2_with fail
  refine (heldMem _ (daF xs0 xs1).length (1) _ hq36'''.rd (by omega) (by omega) (by omega)).mono ?_
  rintro e w48 ⟨rfl, hb48⟩
  clear hc1x0 gc1x0 l1 hc6x0 gc6x0 l6 hc16x0 gc16x0 l16 hc20x0 gc20x0 l20 hc40x0 gc40x0 l40
  have sz49 := hb48.size
  try simp only [World.size_alloc] at sz49
  have hB''''''''''''''''''''' := hB''''''''''''''''''''.trans (hb48.mono hB''''''''''''''''''''.size)
  clear hB''''''''''''''''''''
  have k1'''''''''''''''''''' := k1'''''''''''''''''''.below hb48 k1'''''''''''''''''''.lt
  clear k1'''''''''''''''''''
  have kg6''''''''''''''''' := kg6''''''''''''''''.below hb48 kg6''''''''''''''''.lt
  clear kg6''''''''''''''''
  have k16'''''''''''''' := k16'''''''''''''.below hb48 k16'''''''''''''.lt
  clear k16'''''''''''''
  have k20'''''''''''' := k20'''''''''''.below hb48 k20'''''''''''.lt
  clear k20'''''''''''
  have kg40'' := kg40'.below hb48 kg40'.lt
  clear kg40'
  have ho10''''''''''''''''' := ho10''''''''''''''''.below hb48
  clear ho10''''''''''''''''
  have hq30''''''' := hq30''''''.below hb48
  clear hq30''''''
  have hq32'''''' := hq32'''''.below hb48
  clear hq32'''''
  have hq36'''' := hq36'''.below hb48
  clear hq36'''
  have ho23'''''''''' := ho23'''''''''.below hb48
  clear ho23'''''''''
  have ho44'' := ho44'.below hb48
  clear ho44'
  obtain ⟨hc1x0, gc1x0⟩ := k1''''''''''''''''''''.at_ 0 (x := .slice Aa1 xs1.length da1) rfl
  have l1 := k1''''''''''''''''''''.lt
  obtain ⟨hc6x0, gc6x0⟩ := kg6'''''''''''''''''.at_ 0 (x := .slice A10 (daF xs0 xs1).length d10) rfl
  have l6 := kg6'''''''''''''''''.lt
  obtain ⟨hc16x0, gc16x0⟩ := k16''''''''''''''.at_ 0 (x := .slice A14 xs1.length d14) rfl
  have l16 := k16''''''''''''''.lt
  obtain ⟨hc20x0, gc20x0⟩ := k20''''''''''''.at_ 0 (x := .slice A18 (daF xs0 xs1).length d18) rfl
  have l20 := k20''''''''''''.lt
  obtain ⟨hc40x0, gc40x0⟩ := kg40''.at_ 0 (x := .slice A44 (daF xs0 xs1).length d44) rfl
  have l40 := kg40''.lt
  go_wp2_with fail
  go_ret
  exact ⟨rfl, hB'''''''''''''''''''''⟩
set_option maxRecDepth 100000 in
theorem lift_DrainAll (os : Os) (started : os.Started) (H : Type) (enc : TypeId × Value → H) :
    ReturnsInHanded {} Try.checked os 12 .any (Rows.fnExactDrainAllSpec.pre6 enc Try.prog Try.f12 Rows.fnExactDrainAllRow.domain false) (Rows.fnExactDrainAllSpec.post enc Try.prog Try.f12 false true false false) := by
  refine returnsInHanded_of_change (C := Try.checked) (by kernel_rfl) started (by kernel_rfl) Try.func12
    (ChangeSpec.witness6 (enc := enc) (C := Try.checked) false ⟨#[], #[.slice none 0 0, .agg #[.slice none 0 0]], []⟩ 8 (by kernel_rfl) (by kernel_rfl) (by kernel_rfl) (by kernel_rfl)) ?_
  intro W base args ds gs before hval0 hW hcnd _
  have hval : ∀ (j : Nat) t v, Try.f12.params[j]? = some t → args[j]? = some v → Value.okWide Try.prog W .any base t v := hval0
  have hW' := hW
  obtain ⟨p, q, hA0, hV, rfl, hfz, hnd⟩ := hW
  have hA : DataW.TrodAll enc Try.prog W 0 (fun _ => true) true Try.f12.params.toList args.toList ds p := hA0
  rw [Try.params12] at hA hval
  obtain ⟨v0, vs0, d0, ds0, p0, q0, hargs, rfl, rfl, h0, r0⟩ := trodAll_cons hA
  obtain ⟨v1, vs1, d1, ds1, p1, q1, rfl, rfl, rfl, h1, r1⟩ := trodAll_cons r0
  obtain ⟨rfl, rfl, rfl⟩ := trodAll_nil r1
  obtain rfl : args = #[v0, v1] := by cases args; simp_all
  obtain ⟨rfl, rfl⟩ := trodVars_none hV
  obtain ⟨c0, l0, e0, rfl⟩ := okWide_slice Try.underlying63 (hval 0 _ v0 rfl rfl)
  obtain ⟨fuel0, hf0⟩ := h0
  obtain ⟨xs0, hR0, hI0⟩ := read_p2s Try.underlying63 Try.underlying118 (by kernel_rfl) ⟨rfl, rfl⟩ (by decide +kernel) ⟨Try.underlying3, Try.underlying3⟩ (by simpa [Value.cells] using hf0)
  obtain ⟨c1, xs1, rfl, hR1, _⟩ := read_mem Try.underlying34 ⟨rfl, rfl⟩ (by kernel_rfl) (by kernel_rfl) Try.underlying24 Try.underlying3 (by kernel_rfl) (hval 1 _ v1 rfl rfl) h1
  refine (walk_DrainAll _ xs0 c1 xs1 W hR0 hR1).mono fun e W' ⟨he, hb⟩ => ?_
  subst he
  exact ⟨_, rfl, post_law (by kernel_rfl) rfl rfl (by kernel_rfl) Try.underlying4 (of_decide_eq_true (by kernel_rfl)) hW' hb⟩
theorem FnExactDrainAll_holds : Rows.FnExactDrainAllSaid :=
  OpenClaim.holds_of_wide 12 Try.f12 rfl rfl rfl rfl rfl rfl rfl ⟨rfl, rfl, rfl, rfl, rfl⟩ rfl rfl rfl rfl rfl (by kernel_rfl) Try.func12 (by kernel_rfl)
    (of_decide_eq_true (by kernel_rfl)) (by unfold Func.isWrapper; first | (rw [if_pos (by decide +kernel)]; kernel_rfl) | (rw [if_neg (by decide +kernel)]; exact ⟨rfl, rfl⟩))
    (fun os started H enc _ => lift_DrainAll os started H enc)
#print axioms FnExactDrainAll_holds
end Go.Proofs.Ytiflooopfpcelab
