/- The text of an instruction, the program's way: its operands as pointers, the table of names. Conditions: the fields are integers of 64 bits; the tables of names and of powers of ten stand as written. -/
import Derived.Test.YtgbgjlmkmlhefaaGreatDoorT3
import Derived.Test.YtgbgjlmkmlhefaaGreatDoorT1
import Derived.Test.YtgbgjlmkmlhefaaGreatDoorI4
import Derived.Test.YtgbgjlmkmlhefaaGreatDoorS2c
namespace Go.Proofs.YtgbgjlmkmlhefaaGreatDoor
set_option maxRecDepth 20000
set_option linter.unusedSimpArgs false
set_option linter.unusedVariables false
open Go.ChangeShapes Go.WideShapes Go.ChangeAt Go.RowKit
set_option linter.unusedVariables false
def Names (w : World) : Prop := ∀ k x, wordTab[k]? = some x → w.cell? ⟨0, k, none⟩ = some (str x)
theorem Names.below {B : Nat} {w w' : World} (h : Names w) (hb : Below B w w') (hB : w.heap.size ≤ B) : Names w' := by
  intro k x hk
  have h1 := h k x hk
  exact (hb.cell (p := ⟨0, k, none⟩) (Nat.lt_of_lt_of_le (World.block_lt_of_cell? _ _ h1) hB)).trans h1
def inN (o : Int) : Bool := ([0, 6] : List Int).any (· == o) || inA o
def offs (o : Int) : List Nat := (if inR o then [1] else []) ++ (if inS o then [2] else []) ++ (if inN o then [3] else [])
def ptrs (b : Nat) (l : List Nat) : List Value := l.map fun j => .pointer (some ⟨b, j, none⟩)
def offC (c : UInt8) : Nat := if c = 114 then 1 else if c = 115 then 2 else 3
theorem offs_form {o : Int} (h : inB o 0 8 = true) : offs o = (formF o).map offC := by
  rcases op_cases h with rfl | rfl | rfl | rfl | rfl | rfl | rfl | rfl | rfl <;> decide
theorem offs_len (o : Int) : (offs o).length ≤ 3 := by
  unfold offs
  cases inR o <;> cases inS o <;> cases inN o <;> simp
set_option maxHeartbeats 400000 in
theorem oc_usesN (o : Int) (w : World) :
    Calls Tryz.prog 82 #[.int .i64 o] w fun e w' => e = .returned (.bool (inN o)) ∧ Below w.heap.size w w' := by
  have h06 : ([0, 6] : List Int).any (· == o) = true ∨ ([0, 6] : List Int).any (· == o) = false := by cases ([0, 6] : List Int).any (· == o) <;> simp
  rcases h06 with h | h
  · have HN : Hid (inN o = true) := Lib.hid (by unfold inN; rw [h]; rfl)
    have hC := oc_is o _ [0, 6] _ (Rd.newInts w [0, 6] 89 rfl (by decide))
    rw [h] at hC
    have HC := Lib.hid hC
    clear h hC
    go_enter Tryz.func82, Tryz.ntmps82
    go_wp2_with fail
    refine HC.out.mono ?_
    rintro e w2 ⟨rfl, rfl⟩
    go_wp2_with fail
    go_ret
    exact ⟨ret_bool HN.out.symm, (Below.refl _ _).alloc (Nat.le_refl _) _⟩
  · have HN : Hid (inN o = inA o) := Lib.hid (by unfold inN; rw [h]; rfl)
    have hC := oc_is o _ [0, 6] _ (Rd.newInts w [0, 6] 89 rfl (by decide))
    rw [h] at hC
    have HC := Lib.hid hC
    clear h hC
    go_enter Tryz.func82, Tryz.ntmps82
    go_wp2_with fail
    refine HC.out.mono ?_
    rintro e w2 ⟨rfl, rfl⟩
    go_wp2_with fail
    refine (oc_usesAddress o _).mono ?_
    rintro e w3 ⟨rfl, hb3⟩
    go_wp2_with fail
    go_ret
    exact ⟨ret_bool HN.out.symm, ((Below.refl _ _).alloc (Nat.le_refl _) _).trans (hb3.mono (by simp))⟩
theorem infoPtr : (Tryz.prog.info? 95).map (fun i => (i.zero, i.size, i.bytes)) = some (some (.pointer none), 1, 8) := by kernel_rfl
theorem owns_snocP {w : World} {base b : Nat} {t : TypeId} {v : Value} {N : List Nat} {j : Nat} (h : w.ownsRow base t 1 v (N.length + 1) (ptrs b N ++ [.pointer (some ⟨b, j, none⟩)])) : w.ownsRow base t 1 v (N ++ [j]).length (ptrs b (N ++ [j])) := by
  simpa [ptrs] using h
set_option maxHeartbeats 3200000 in
theorem impl_operands (b : Nat) (x : Ins) (w : World) (k0 : Bk w b #[.int .i64 x.o, .int .i64 x.r, .int .i64 x.s, .int .i64 x.n] 37) :
    Calls Tryz.prog 56 #[.pointer (some ⟨b, 0, none⟩)] w fun e w' => ∃ v', e = .returned v' ∧ w'.ownsRow w.heap.size 95 1 v' (offs x.o).length (ptrs b (offs x.o)) ∧ Below w.heap.size w w' := by
  obtain ⟨i, hi, hiz0, hiz1, hiz2⟩ := info_parts infoPtr
  have hU1 := fun W : World => toB (oc_usesR x.o W)
  have hU2 := fun W : World => oc_usesS x.o W
  have hU3 := fun W : World => oc_usesN x.o W
  have hF : offs x.o = (if inR x.o then [1] else []) ++ (if inS x.o then [2] else []) ++ (if inN x.o then [3] else []) := rfl
  have hO0 : w.ownsRow w.heap.size 95 1 (.slice none 0 0) 0 (ptrs b []) := ⟨rfl, .inl ⟨rfl, rfl⟩⟩
  have hB0 := Below.refl w.heap.size w
  have hbl := k0.lt
  cases h1 : inR x.o <;> cases h2 : inS x.o <;> cases h3 : inN x.o
  all_goals
    rw [h1] at hU1 hF
    rw [h2] at hU2 hF
    rw [h3] at hU3 hF
    have HU1 := Lib.hid hU1
    have HU2 := Lib.hid hU2
    have HU3 := Lib.hid hU3
    have HF := Lib.hid hF
    clear h1 h2 h3 hU1 hU2 hU3 hF
  · go_enter Tryz.func56, Tryz.ntmps56
    have k := k0
    have hO := hO0
    have hB := hB0
    clear k0 hO0 hB0
    obtain ⟨hc0, -⟩ := k.at_ 0 rfl
    obtain ⟨hc1, -⟩ := k.at_ 1 rfl
    obtain ⟨hc2, -⟩ := k.at_ 2 rfl
    obtain ⟨hc3, -⟩ := k.at_ 3 rfl
    go_wp2_with fail
    refine (ins_op x _).mono ?_
    rintro e u1 ⟨rfl, hp1⟩
    clear hc0 hc1 hc2 hc3
    go_wp2_with fail
    refine (HU1.out _).mono ?_
    rintro e z1 ⟨rfl, hq1⟩
    have hr1 := hp1.trans (hq1.mono hp1.size)
    have k1 := k.below hr1 k.lt
    have hO1 := ownsRow_below hO hr1
    have hB1 := hB.trans (hr1.mono hB.size)
    clear k hO hB hp1 hq1 hr1
    obtain ⟨hc0, -⟩ := k1.at_ 0 rfl
    obtain ⟨hc1, -⟩ := k1.at_ 1 rfl
    obtain ⟨hc2, -⟩ := k1.at_ 2 rfl
    obtain ⟨hc3, -⟩ := k1.at_ 3 rfl
    go_wp2_with fail
    refine (ins_op x _).mono ?_
    rintro e u2 ⟨rfl, hp2⟩
    clear hc0 hc1 hc2 hc3
    go_wp2_with fail
    refine (HU2.out _).mono ?_
    rintro e z2 ⟨rfl, hq2⟩
    have hr2 := hp2.trans (hq2.mono hp2.size)
    have k12 := k1.below hr2 k1.lt
    have hO12 := ownsRow_below hO1 hr2
    have hB12 := hB1.trans (hr2.mono hB1.size)
    clear k1 hO1 hB1 hp2 hq2 hr2
    obtain ⟨hc0, -⟩ := k12.at_ 0 rfl
    obtain ⟨hc1, -⟩ := k12.at_ 1 rfl
    obtain ⟨hc2, -⟩ := k12.at_ 2 rfl
    obtain ⟨hc3, -⟩ := k12.at_ 3 rfl
    go_wp2_with fail
    refine (ins_op x _).mono ?_
    rintro e u3 ⟨rfl, hp3⟩
    clear hc0 hc1 hc2 hc3
    go_wp2_with fail
    refine (HU3.out _).mono ?_
    rintro e z3 ⟨rfl, hq3⟩
    have hr3 := hp3.trans (hq3.mono hp3.size)
    have k123 := k12.below hr3 k12.lt
    have hO123 := ownsRow_below hO12 hr3
    have hB123 := hB12.trans (hr3.mono hB12.size)
    clear k12 hO12 hB12 hp3 hq3 hr3
    go_wp2_with fail
    go_ret
    exact ⟨_, rfl, by rw [HF.out]; exact hO123, hB123⟩
  · go_enter Tryz.func56, Tryz.ntmps56
    have k := k0
    have hO := hO0
    have hB := hB0
    clear k0 hO0 hB0
    obtain ⟨hc0, -⟩ := k.at_ 0 rfl
    obtain ⟨hc1, -⟩ := k.at_ 1 rfl
    obtain ⟨hc2, -⟩ := k.at_ 2 rfl
    obtain ⟨hc3, -⟩ := k.at_ 3 rfl
    go_wp2_with fail
    refine (ins_op x _).mono ?_
    rintro e u1 ⟨rfl, hp1⟩
    clear hc0 hc1 hc2 hc3
    go_wp2_with fail
    refine (HU1.out _).mono ?_
    rintro e z1 ⟨rfl, hq1⟩
    have hr1 := hp1.trans (hq1.mono hp1.size)
    have k1 := k.below hr1 k.lt
    have hO1 := ownsRow_below hO hr1
    have hB1 := hB.trans (hr1.mono hB.size)
    clear k hO hB hp1 hq1 hr1
    obtain ⟨hc0, -⟩ := k1.at_ 0 rfl
    obtain ⟨hc1, -⟩ := k1.at_ 1 rfl
    obtain ⟨hc2, -⟩ := k1.at_ 2 rfl
    obtain ⟨hc3, -⟩ := k1.at_ 3 rfl
    go_wp2_with fail
    refine (ins_op x _).mono ?_
    rintro e u2 ⟨rfl, hp2⟩
    clear hc0 hc1 hc2 hc3
    go_wp2_with fail
    refine (HU2.out _).mono ?_
    rintro e z2 ⟨rfl, hq2⟩
    have hr2 := hp2.trans (hq2.mono hp2.size)
    have k12 := k1.below hr2 k1.lt
    have hO12 := ownsRow_below hO1 hr2
    have hB12 := hB1.trans (hr2.mono hB1.size)
    clear k1 hO1 hB1 hp2 hq2 hr2
    obtain ⟨hc0, -⟩ := k12.at_ 0 rfl
    obtain ⟨hc1, -⟩ := k12.at_ 1 rfl
    obtain ⟨hc2, -⟩ := k12.at_ 2 rfl
    obtain ⟨hc3, -⟩ := k12.at_ 3 rfl
    go_wp2_with fail
    refine (ins_op x _).mono ?_
    rintro e u3 ⟨rfl, hp3⟩
    clear hc0 hc1 hc2 hc3
    go_wp2_with fail
    refine (HU3.out _).mono ?_
    rintro e z3 ⟨rfl, hq3⟩
    have hr3 := hp3.trans (hq3.mono hp3.size)
    have k123 := k12.below hr3 k12.lt
    have hO123 := ownsRow_below hO12 hr3
    have hB123 := hB12.trans (hr3.mono hB12.size)
    clear k12 hO12 hB12 hp3 hq3 hr3
    go_wp2_with (at_builtin; refine wpList_append_own _ rfl _ _ 93 rfl (w.heap.size) 95 i (.pointer none) 1 8 Tryz.underlying93 hi hiz0 hiz1 hiz2 rfl (by decide) _ _ _ rfl (hO123.alloc _) ⟨z3.heap.size, 0, none⟩ 1 1 [.pointer (some ⟨b, 3, none⟩)] rfl rfl (new_cells _ _ _) (by simp [Value.oneCell']) (by unfold maxLen; omega) (by omega) (by have := hB123.size; simp; omega) ?_)
    intro v3 y3 oa3 hg3 _
    have nb3 := (hB123.alloc hB123.size _).grown hg3 (by have := hB123.size; simp; omega) (fun k hk => by have := (hO123.lt k hk).1; omega)
    have hO123a : y3.ownsRow w.heap.size 95 1 v3 1 (ptrs b [3]) := owns_snocP (N := []) oa3
    have k123a := (k123.alloc (.cells #[.pointer (some ⟨b, 3, none⟩)] 95)).grown hg3 (fun g hg => by have := (hO123.lt g hg).1; omega)
    clear hO123 k123 hB123 oa3 hg3
    have hB123a := nb3
    clear nb3
    go_wp2_with fail
    go_ret
    exact ⟨_, rfl, by rw [HF.out]; exact hO123a, hB123a⟩
  · go_enter Tryz.func56, Tryz.ntmps56
    have k := k0
    have hO := hO0
    have hB := hB0
    clear k0 hO0 hB0
    obtain ⟨hc0, -⟩ := k.at_ 0 rfl
    obtain ⟨hc1, -⟩ := k.at_ 1 rfl
    obtain ⟨hc2, -⟩ := k.at_ 2 rfl
    obtain ⟨hc3, -⟩ := k.at_ 3 rfl
    go_wp2_with fail
    refine (ins_op x _).mono ?_
    rintro e u1 ⟨rfl, hp1⟩
    clear hc0 hc1 hc2 hc3
    go_wp2_with fail
    refine (HU1.out _).mono ?_
    rintro e z1 ⟨rfl, hq1⟩
    have hr1 := hp1.trans (hq1.mono hp1.size)
    have k1 := k.below hr1 k.lt
    have hO1 := ownsRow_below hO hr1
    have hB1 := hB.trans (hr1.mono hB.size)
    clear k hO hB hp1 hq1 hr1
    obtain ⟨hc0, -⟩ := k1.at_ 0 rfl
    obtain ⟨hc1, -⟩ := k1.at_ 1 rfl
    obtain ⟨hc2, -⟩ := k1.at_ 2 rfl
    obtain ⟨hc3, -⟩ := k1.at_ 3 rfl
    go_wp2_with fail
    refine (ins_op x _).mono ?_
    rintro e u2 ⟨rfl, hp2⟩
    clear hc0 hc1 hc2 hc3
    go_wp2_with fail
    refine (HU2.out _).mono ?_
    rintro e z2 ⟨rfl, hq2⟩
    have hr2 := hp2.trans (hq2.mono hp2.size)
    have k12 := k1.below hr2 k1.lt
    have hO12 := ownsRow_below hO1 hr2
    have hB12 := hB1.trans (hr2.mono hB1.size)
    clear k1 hO1 hB1 hp2 hq2 hr2
    go_wp2_with (at_builtin; refine wpList_append_own _ rfl _ _ 93 rfl (w.heap.size) 95 i (.pointer none) 1 8 Tryz.underlying93 hi hiz0 hiz1 hiz2 rfl (by decide) _ _ _ rfl (hO12.alloc _) ⟨z2.heap.size, 0, none⟩ 1 1 [.pointer (some ⟨b, 2, none⟩)] rfl rfl (new_cells _ _ _) (by simp [Value.oneCell']) (by unfold maxLen; omega) (by omega) (by have := hB12.size; simp; omega) ?_)
    intro v2 y2 oa2 hg2 _
    have nb2 := (hB12.alloc hB12.size _).grown hg2 (by have := hB12.size; simp; omega) (fun k hk => by have := (hO12.lt k hk).1; omega)
    have hO12a : y2.ownsRow w.heap.size 95 1 v2 1 (ptrs b [2]) := owns_snocP (N := []) oa2
    have k12a := (k12.alloc (.cells #[.pointer (some ⟨b, 2, none⟩)] 95)).grown hg2 (fun g hg => by have := (hO12.lt g hg).1; omega)
    clear hO12 k12 hB12 oa2 hg2
    have hB12a := nb2
    clear nb2
    obtain ⟨hc0, -⟩ := k12a.at_ 0 rfl
    obtain ⟨hc1, -⟩ := k12a.at_ 1 rfl
    obtain ⟨hc2, -⟩ := k12a.at_ 2 rfl
    obtain ⟨hc3, -⟩ := k12a.at_ 3 rfl
    go_wp2_with fail
    refine (ins_op x _).mono ?_
    rintro e u3 ⟨rfl, hp3⟩
    clear hc0 hc1 hc2 hc3
    go_wp2_with fail
    refine (HU3.out _).mono ?_
    rintro e z3 ⟨rfl, hq3⟩
    have hr3 := hp3.trans (hq3.mono hp3.size)
    have k12a3 := k12a.below hr3 k12a.lt
    have hO12a3 := ownsRow_below hO12a hr3
    have hB12a3 := hB12a.trans (hr3.mono hB12a.size)
    clear k12a hO12a hB12a hp3 hq3 hr3
    go_wp2_with fail
    go_ret
    exact ⟨_, rfl, by rw [HF.out]; exact hO12a3, hB12a3⟩
  · go_enter Tryz.func56, Tryz.ntmps56
    have k := k0
    have hO := hO0
    have hB := hB0
    clear k0 hO0 hB0
    obtain ⟨hc0, -⟩ := k.at_ 0 rfl
    obtain ⟨hc1, -⟩ := k.at_ 1 rfl
    obtain ⟨hc2, -⟩ := k.at_ 2 rfl
    obtain ⟨hc3, -⟩ := k.at_ 3 rfl
    go_wp2_with fail
    refine (ins_op x _).mono ?_
    rintro e u1 ⟨rfl, hp1⟩
    clear hc0 hc1 hc2 hc3
    go_wp2_with fail
    refine (HU1.out _).mono ?_
    rintro e z1 ⟨rfl, hq1⟩
    have hr1 := hp1.trans (hq1.mono hp1.size)
    have k1 := k.below hr1 k.lt
    have hO1 := ownsRow_below hO hr1
    have hB1 := hB.trans (hr1.mono hB.size)
    clear k hO hB hp1 hq1 hr1
    obtain ⟨hc0, -⟩ := k1.at_ 0 rfl
    obtain ⟨hc1, -⟩ := k1.at_ 1 rfl
    obtain ⟨hc2, -⟩ := k1.at_ 2 rfl
    obtain ⟨hc3, -⟩ := k1.at_ 3 rfl
    go_wp2_with fail
    refine (ins_op x _).mono ?_
    rintro e u2 ⟨rfl, hp2⟩
    clear hc0 hc1 hc2 hc3
    go_wp2_with fail
    refine (HU2.out _).mono ?_
    rintro e z2 ⟨rfl, hq2⟩
    have hr2 := hp2.trans (hq2.mono hp2.size)
    have k12 := k1.below hr2 k1.lt
    have hO12 := ownsRow_below hO1 hr2
    have hB12 := hB1.trans (hr2.mono hB1.size)
    clear k1 hO1 hB1 hp2 hq2 hr2
    go_wp2_with (at_builtin; refine wpList_append_own _ rfl _ _ 93 rfl (w.heap.size) 95 i (.pointer none) 1 8 Tryz.underlying93 hi hiz0 hiz1 hiz2 rfl (by decide) _ _ _ rfl (hO12.alloc _) ⟨z2.heap.size, 0, none⟩ 1 1 [.pointer (some ⟨b, 2, none⟩)] rfl rfl (new_cells _ _ _) (by simp [Value.oneCell']) (by unfold maxLen; omega) (by omega) (by have := hB12.size; simp; omega) ?_)
    intro v2 y2 oa2 hg2 _
    have nb2 := (hB12.alloc hB12.size _).grown hg2 (by have := hB12.size; simp; omega) (fun k hk => by have := (hO12.lt k hk).1; omega)
    have hO12a : y2.ownsRow w.heap.size 95 1 v2 1 (ptrs b [2]) := owns_snocP (N := []) oa2
    have k12a := (k12.alloc (.cells #[.pointer (some ⟨b, 2, none⟩)] 95)).grown hg2 (fun g hg => by have := (hO12.lt g hg).1; omega)
    clear hO12 k12 hB12 oa2 hg2
    have hB12a := nb2
    clear nb2
    obtain ⟨hc0, -⟩ := k12a.at_ 0 rfl
    obtain ⟨hc1, -⟩ := k12a.at_ 1 rfl
    obtain ⟨hc2, -⟩ := k12a.at_ 2 rfl
    obtain ⟨hc3, -⟩ := k12a.at_ 3 rfl
    go_wp2_with fail
    refine (ins_op x _).mono ?_
    rintro e u3 ⟨rfl, hp3⟩
    clear hc0 hc1 hc2 hc3
    go_wp2_with fail
    refine (HU3.out _).mono ?_
    rintro e z3 ⟨rfl, hq3⟩
    have hr3 := hp3.trans (hq3.mono hp3.size)
    have k12a3 := k12a.below hr3 k12a.lt
    have hO12a3 := ownsRow_below hO12a hr3
    have hB12a3 := hB12a.trans (hr3.mono hB12a.size)
    clear k12a hO12a hB12a hp3 hq3 hr3
    go_wp2_with (at_builtin; refine wpList_append_own _ rfl _ _ 93 rfl (w.heap.size) 95 i (.pointer none) 1 8 Tryz.underlying93 hi hiz0 hiz1 hiz2 rfl (by decide) _ _ _ rfl (hO12a3.alloc _) ⟨z3.heap.size, 0, none⟩ 1 1 [.pointer (some ⟨b, 3, none⟩)] rfl rfl (new_cells _ _ _) (by simp [Value.oneCell']) (by unfold maxLen; omega) (by omega) (by have := hB12a3.size; simp; omega) ?_)
    intro v3 y3 oa3 hg3 _
    have nb3 := (hB12a3.alloc hB12a3.size _).grown hg3 (by have := hB12a3.size; simp; omega) (fun k hk => by have := (hO12a3.lt k hk).1; omega)
    have hO12a3a : y3.ownsRow w.heap.size 95 1 v3 2 (ptrs b [2, 3]) := owns_snocP (N := [2]) oa3
    have k12a3a := (k12a3.alloc (.cells #[.pointer (some ⟨b, 3, none⟩)] 95)).grown hg3 (fun g hg => by have := (hO12a3.lt g hg).1; omega)
    clear hO12a3 k12a3 hB12a3 oa3 hg3
    have hB12a3a := nb3
    clear nb3
    go_wp2_with fail
    go_ret
    exact ⟨_, rfl, by rw [HF.out]; exact hO12a3a, hB12a3a⟩
  · go_enter Tryz.func56, Tryz.ntmps56
    have k := k0
    have hO := hO0
    have hB := hB0
    clear k0 hO0 hB0
    obtain ⟨hc0, -⟩ := k.at_ 0 rfl
    obtain ⟨hc1, -⟩ := k.at_ 1 rfl
    obtain ⟨hc2, -⟩ := k.at_ 2 rfl
    obtain ⟨hc3, -⟩ := k.at_ 3 rfl
    go_wp2_with fail
    refine (ins_op x _).mono ?_
    rintro e u1 ⟨rfl, hp1⟩
    clear hc0 hc1 hc2 hc3
    go_wp2_with fail
    refine (HU1.out _).mono ?_
    rintro e z1 ⟨rfl, hq1⟩
    have hr1 := hp1.trans (hq1.mono hp1.size)
    have k1 := k.below hr1 k.lt
    have hO1 := ownsRow_below hO hr1
    have hB1 := hB.trans (hr1.mono hB.size)
    clear k hO hB hp1 hq1 hr1
    go_wp2_with (at_builtin; refine wpList_append_own _ rfl _ _ 93 rfl (w.heap.size) 95 i (.pointer none) 1 8 Tryz.underlying93 hi hiz0 hiz1 hiz2 rfl (by decide) _ _ _ rfl (hO1.alloc _) ⟨z1.heap.size, 0, none⟩ 1 1 [.pointer (some ⟨b, 1, none⟩)] rfl rfl (new_cells _ _ _) (by simp [Value.oneCell']) (by unfold maxLen; omega) (by omega) (by have := hB1.size; simp; omega) ?_)
    intro v1 y1 oa1 hg1 _
    have nb1 := (hB1.alloc hB1.size _).grown hg1 (by have := hB1.size; simp; omega) (fun k hk => by have := (hO1.lt k hk).1; omega)
    have hO1a : y1.ownsRow w.heap.size 95 1 v1 1 (ptrs b [1]) := owns_snocP (N := []) oa1
    have k1a := (k1.alloc (.cells #[.pointer (some ⟨b, 1, none⟩)] 95)).grown hg1 (fun g hg => by have := (hO1.lt g hg).1; omega)
    clear hO1 k1 hB1 oa1 hg1
    have hB1a := nb1
    clear nb1
    obtain ⟨hc0, -⟩ := k1a.at_ 0 rfl
    obtain ⟨hc1, -⟩ := k1a.at_ 1 rfl
    obtain ⟨hc2, -⟩ := k1a.at_ 2 rfl
    obtain ⟨hc3, -⟩ := k1a.at_ 3 rfl
    go_wp2_with fail
    refine (ins_op x _).mono ?_
    rintro e u2 ⟨rfl, hp2⟩
    clear hc0 hc1 hc2 hc3
    go_wp2_with fail
    refine (HU2.out _).mono ?_
    rintro e z2 ⟨rfl, hq2⟩
    have hr2 := hp2.trans (hq2.mono hp2.size)
    have k1a2 := k1a.below hr2 k1a.lt
    have hO1a2 := ownsRow_below hO1a hr2
    have hB1a2 := hB1a.trans (hr2.mono hB1a.size)
    clear k1a hO1a hB1a hp2 hq2 hr2
    obtain ⟨hc0, -⟩ := k1a2.at_ 0 rfl
    obtain ⟨hc1, -⟩ := k1a2.at_ 1 rfl
    obtain ⟨hc2, -⟩ := k1a2.at_ 2 rfl
    obtain ⟨hc3, -⟩ := k1a2.at_ 3 rfl
    go_wp2_with fail
    refine (ins_op x _).mono ?_
    rintro e u3 ⟨rfl, hp3⟩
    clear hc0 hc1 hc2 hc3
    go_wp2_with fail
    refine (HU3.out _).mono ?_
    rintro e z3 ⟨rfl, hq3⟩
    have hr3 := hp3.trans (hq3.mono hp3.size)
    have k1a23 := k1a2.below hr3 k1a2.lt
    have hO1a23 := ownsRow_below hO1a2 hr3
    have hB1a23 := hB1a2.trans (hr3.mono hB1a2.size)
    clear k1a2 hO1a2 hB1a2 hp3 hq3 hr3
    go_wp2_with fail
    go_ret
    exact ⟨_, rfl, by rw [HF.out]; exact hO1a23, hB1a23⟩
  · go_enter Tryz.func56, Tryz.ntmps56
    have k := k0
    have hO := hO0
    have hB := hB0
    clear k0 hO0 hB0
    obtain ⟨hc0, -⟩ := k.at_ 0 rfl
    obtain ⟨hc1, -⟩ := k.at_ 1 rfl
    obtain ⟨hc2, -⟩ := k.at_ 2 rfl
    obtain ⟨hc3, -⟩ := k.at_ 3 rfl
    go_wp2_with fail
    refine (ins_op x _).mono ?_
    rintro e u1 ⟨rfl, hp1⟩
    clear hc0 hc1 hc2 hc3
    go_wp2_with fail
    refine (HU1.out _).mono ?_
    rintro e z1 ⟨rfl, hq1⟩
    have hr1 := hp1.trans (hq1.mono hp1.size)
    have k1 := k.below hr1 k.lt
    have hO1 := ownsRow_below hO hr1
    have hB1 := hB.trans (hr1.mono hB.size)
    clear k hO hB hp1 hq1 hr1
    go_wp2_with (at_builtin; refine wpList_append_own _ rfl _ _ 93 rfl (w.heap.size) 95 i (.pointer none) 1 8 Tryz.underlying93 hi hiz0 hiz1 hiz2 rfl (by decide) _ _ _ rfl (hO1.alloc _) ⟨z1.heap.size, 0, none⟩ 1 1 [.pointer (some ⟨b, 1, none⟩)] rfl rfl (new_cells _ _ _) (by simp [Value.oneCell']) (by unfold maxLen; omega) (by omega) (by have := hB1.size; simp; omega) ?_)
    intro v1 y1 oa1 hg1 _
    have nb1 := (hB1.alloc hB1.size _).grown hg1 (by have := hB1.size; simp; omega) (fun k hk => by have := (hO1.lt k hk).1; omega)
    have hO1a : y1.ownsRow w.heap.size 95 1 v1 1 (ptrs b [1]) := owns_snocP (N := []) oa1
    have k1a := (k1.alloc (.cells #[.pointer (some ⟨b, 1, none⟩)] 95)).grown hg1 (fun g hg => by have := (hO1.lt g hg).1; omega)
    clear hO1 k1 hB1 oa1 hg1
    have hB1a := nb1
    clear nb1
    obtain ⟨hc0, -⟩ := k1a.at_ 0 rfl
    obtain ⟨hc1, -⟩ := k1a.at_ 1 rfl
    obtain ⟨hc2, -⟩ := k1a.at_ 2 rfl
    obtain ⟨hc3, -⟩ := k1a.at_ 3 rfl
    go_wp2_with fail
    refine (ins_op x _).mono ?_
    rintro e u2 ⟨rfl, hp2⟩
    clear hc0 hc1 hc2 hc3
    go_wp2_with fail
    refine (HU2.out _).mono ?_
    rintro e z2 ⟨rfl, hq2⟩
    have hr2 := hp2.trans (hq2.mono hp2.size)
    have k1a2 := k1a.below hr2 k1a.lt
    have hO1a2 := ownsRow_below hO1a hr2
    have hB1a2 := hB1a.trans (hr2.mono hB1a.size)
    clear k1a hO1a hB1a hp2 hq2 hr2
    obtain ⟨hc0, -⟩ := k1a2.at_ 0 rfl
    obtain ⟨hc1, -⟩ := k1a2.at_ 1 rfl
    obtain ⟨hc2, -⟩ := k1a2.at_ 2 rfl
    obtain ⟨hc3, -⟩ := k1a2.at_ 3 rfl
    go_wp2_with fail
    refine (ins_op x _).mono ?_
    rintro e u3 ⟨rfl, hp3⟩
    clear hc0 hc1 hc2 hc3
    go_wp2_with fail
    refine (HU3.out _).mono ?_
    rintro e z3 ⟨rfl, hq3⟩
    have hr3 := hp3.trans (hq3.mono hp3.size)
    have k1a23 := k1a2.below hr3 k1a2.lt
    have hO1a23 := ownsRow_below hO1a2 hr3
    have hB1a23 := hB1a2.trans (hr3.mono hB1a2.size)
    clear k1a2 hO1a2 hB1a2 hp3 hq3 hr3
    go_wp2_with (at_builtin; refine wpList_append_own _ rfl _ _ 93 rfl (w.heap.size) 95 i (.pointer none) 1 8 Tryz.underlying93 hi hiz0 hiz1 hiz2 rfl (by decide) _ _ _ rfl (hO1a23.alloc _) ⟨z3.heap.size, 0, none⟩ 1 1 [.pointer (some ⟨b, 3, none⟩)] rfl rfl (new_cells _ _ _) (by simp [Value.oneCell']) (by unfold maxLen; omega) (by omega) (by have := hB1a23.size; simp; omega) ?_)
    intro v3 y3 oa3 hg3 _
    have nb3 := (hB1a23.alloc hB1a23.size _).grown hg3 (by have := hB1a23.size; simp; omega) (fun k hk => by have := (hO1a23.lt k hk).1; omega)
    have hO1a23a : y3.ownsRow w.heap.size 95 1 v3 2 (ptrs b [1, 3]) := owns_snocP (N := [1]) oa3
    have k1a23a := (k1a23.alloc (.cells #[.pointer (some ⟨b, 3, none⟩)] 95)).grown hg3 (fun g hg => by have := (hO1a23.lt g hg).1; omega)
    clear hO1a23 k1a23 hB1a23 oa3 hg3
    have hB1a23a := nb3
    clear nb3
    go_wp2_with fail
    go_ret
    exact ⟨_, rfl, by rw [HF.out]; exact hO1a23a, hB1a23a⟩
  · go_enter Tryz.func56, Tryz.ntmps56
    have k := k0
    have hO := hO0
    have hB := hB0
    clear k0 hO0 hB0
    obtain ⟨hc0, -⟩ := k.at_ 0 rfl
    obtain ⟨hc1, -⟩ := k.at_ 1 rfl
    obtain ⟨hc2, -⟩ := k.at_ 2 rfl
    obtain ⟨hc3, -⟩ := k.at_ 3 rfl
    go_wp2_with fail
    refine (ins_op x _).mono ?_
    rintro e u1 ⟨rfl, hp1⟩
    clear hc0 hc1 hc2 hc3
    go_wp2_with fail
    refine (HU1.out _).mono ?_
    rintro e z1 ⟨rfl, hq1⟩
    have hr1 := hp1.trans (hq1.mono hp1.size)
    have k1 := k.below hr1 k.lt
    have hO1 := ownsRow_below hO hr1
    have hB1 := hB.trans (hr1.mono hB.size)
    clear k hO hB hp1 hq1 hr1
    go_wp2_with (at_builtin; refine wpList_append_own _ rfl _ _ 93 rfl (w.heap.size) 95 i (.pointer none) 1 8 Tryz.underlying93 hi hiz0 hiz1 hiz2 rfl (by decide) _ _ _ rfl (hO1.alloc _) ⟨z1.heap.size, 0, none⟩ 1 1 [.pointer (some ⟨b, 1, none⟩)] rfl rfl (new_cells _ _ _) (by simp [Value.oneCell']) (by unfold maxLen; omega) (by omega) (by have := hB1.size; simp; omega) ?_)
    intro v1 y1 oa1 hg1 _
    have nb1 := (hB1.alloc hB1.size _).grown hg1 (by have := hB1.size; simp; omega) (fun k hk => by have := (hO1.lt k hk).1; omega)
    have hO1a : y1.ownsRow w.heap.size 95 1 v1 1 (ptrs b [1]) := owns_snocP (N := []) oa1
    have k1a := (k1.alloc (.cells #[.pointer (some ⟨b, 1, none⟩)] 95)).grown hg1 (fun g hg => by have := (hO1.lt g hg).1; omega)
    clear hO1 k1 hB1 oa1 hg1
    have hB1a := nb1
    clear nb1
    obtain ⟨hc0, -⟩ := k1a.at_ 0 rfl
    obtain ⟨hc1, -⟩ := k1a.at_ 1 rfl
    obtain ⟨hc2, -⟩ := k1a.at_ 2 rfl
    obtain ⟨hc3, -⟩ := k1a.at_ 3 rfl
    go_wp2_with fail
    refine (ins_op x _).mono ?_
    rintro e u2 ⟨rfl, hp2⟩
    clear hc0 hc1 hc2 hc3
    go_wp2_with fail
    refine (HU2.out _).mono ?_
    rintro e z2 ⟨rfl, hq2⟩
    have hr2 := hp2.trans (hq2.mono hp2.size)
    have k1a2 := k1a.below hr2 k1a.lt
    have hO1a2 := ownsRow_below hO1a hr2
    have hB1a2 := hB1a.trans (hr2.mono hB1a.size)
    clear k1a hO1a hB1a hp2 hq2 hr2
    go_wp2_with (at_builtin; refine wpList_append_own _ rfl _ _ 93 rfl (w.heap.size) 95 i (.pointer none) 1 8 Tryz.underlying93 hi hiz0 hiz1 hiz2 rfl (by decide) _ _ _ rfl (hO1a2.alloc _) ⟨z2.heap.size, 0, none⟩ 1 1 [.pointer (some ⟨b, 2, none⟩)] rfl rfl (new_cells _ _ _) (by simp [Value.oneCell']) (by unfold maxLen; omega) (by omega) (by have := hB1a2.size; simp; omega) ?_)
    intro v2 y2 oa2 hg2 _
    have nb2 := (hB1a2.alloc hB1a2.size _).grown hg2 (by have := hB1a2.size; simp; omega) (fun k hk => by have := (hO1a2.lt k hk).1; omega)
    have hO1a2a : y2.ownsRow w.heap.size 95 1 v2 2 (ptrs b [1, 2]) := owns_snocP (N := [1]) oa2
    have k1a2a := (k1a2.alloc (.cells #[.pointer (some ⟨b, 2, none⟩)] 95)).grown hg2 (fun g hg => by have := (hO1a2.lt g hg).1; omega)
    clear hO1a2 k1a2 hB1a2 oa2 hg2
    have hB1a2a := nb2
    clear nb2
    obtain ⟨hc0, -⟩ := k1a2a.at_ 0 rfl
    obtain ⟨hc1, -⟩ := k1a2a.at_ 1 rfl
    obtain ⟨hc2, -⟩ := k1a2a.at_ 2 rfl
    obtain ⟨hc3, -⟩ := k1a2a.at_ 3 rfl
    go_wp2_with fail
    refine (ins_op x _).mono ?_
    rintro e u3 ⟨rfl, hp3⟩
    clear hc0 hc1 hc2 hc3
    go_wp2_with fail
    refine (HU3.out _).mono ?_
    rintro e z3 ⟨rfl, hq3⟩
    have hr3 := hp3.trans (hq3.mono hp3.size)
    have k1a2a3 := k1a2a.below hr3 k1a2a.lt
    have hO1a2a3 := ownsRow_below hO1a2a hr3
    have hB1a2a3 := hB1a2a.trans (hr3.mono hB1a2a.size)
    clear k1a2a hO1a2a hB1a2a hp3 hq3 hr3
    go_wp2_with fail
    go_ret
    exact ⟨_, rfl, by rw [HF.out]; exact hO1a2a3, hB1a2a3⟩
  · go_enter Tryz.func56, Tryz.ntmps56
    have k := k0
    have hO := hO0
    have hB := hB0
    clear k0 hO0 hB0
    obtain ⟨hc0, -⟩ := k.at_ 0 rfl
    obtain ⟨hc1, -⟩ := k.at_ 1 rfl
    obtain ⟨hc2, -⟩ := k.at_ 2 rfl
    obtain ⟨hc3, -⟩ := k.at_ 3 rfl
    go_wp2_with fail
    refine (ins_op x _).mono ?_
    rintro e u1 ⟨rfl, hp1⟩
    clear hc0 hc1 hc2 hc3
    go_wp2_with fail
    refine (HU1.out _).mono ?_
    rintro e z1 ⟨rfl, hq1⟩
    have hr1 := hp1.trans (hq1.mono hp1.size)
    have k1 := k.below hr1 k.lt
    have hO1 := ownsRow_below hO hr1
    have hB1 := hB.trans (hr1.mono hB.size)
    clear k hO hB hp1 hq1 hr1
    go_wp2_with (at_builtin; refine wpList_append_own _ rfl _ _ 93 rfl (w.heap.size) 95 i (.pointer none) 1 8 Tryz.underlying93 hi hiz0 hiz1 hiz2 rfl (by decide) _ _ _ rfl (hO1.alloc _) ⟨z1.heap.size, 0, none⟩ 1 1 [.pointer (some ⟨b, 1, none⟩)] rfl rfl (new_cells _ _ _) (by simp [Value.oneCell']) (by unfold maxLen; omega) (by omega) (by have := hB1.size; simp; omega) ?_)
    intro v1 y1 oa1 hg1 _
    have nb1 := (hB1.alloc hB1.size _).grown hg1 (by have := hB1.size; simp; omega) (fun k hk => by have := (hO1.lt k hk).1; omega)
    have hO1a : y1.ownsRow w.heap.size 95 1 v1 1 (ptrs b [1]) := owns_snocP (N := []) oa1
    have k1a := (k1.alloc (.cells #[.pointer (some ⟨b, 1, none⟩)] 95)).grown hg1 (fun g hg => by have := (hO1.lt g hg).1; omega)
    clear hO1 k1 hB1 oa1 hg1
    have hB1a := nb1
    clear nb1
    obtain ⟨hc0, -⟩ := k1a.at_ 0 rfl
    obtain ⟨hc1, -⟩ := k1a.at_ 1 rfl
    obtain ⟨hc2, -⟩ := k1a.at_ 2 rfl
    obtain ⟨hc3, -⟩ := k1a.at_ 3 rfl
    go_wp2_with fail
    refine (ins_op x _).mono ?_
    rintro e u2 ⟨rfl, hp2⟩
    clear hc0 hc1 hc2 hc3
    go_wp2_with fail
    refine (HU2.out _).mono ?_
    rintro e z2 ⟨rfl, hq2⟩
    have hr2 := hp2.trans (hq2.mono hp2.size)
    have k1a2 := k1a.below hr2 k1a.lt
    have hO1a2 := ownsRow_below hO1a hr2
    have hB1a2 := hB1a.trans (hr2.mono hB1a.size)
    clear k1a hO1a hB1a hp2 hq2 hr2
    go_wp2_with (at_builtin; refine wpList_append_own _ rfl _ _ 93 rfl (w.heap.size) 95 i (.pointer none) 1 8 Tryz.underlying93 hi hiz0 hiz1 hiz2 rfl (by decide) _ _ _ rfl (hO1a2.alloc _) ⟨z2.heap.size, 0, none⟩ 1 1 [.pointer (some ⟨b, 2, none⟩)] rfl rfl (new_cells _ _ _) (by simp [Value.oneCell']) (by unfold maxLen; omega) (by omega) (by have := hB1a2.size; simp; omega) ?_)
    intro v2 y2 oa2 hg2 _
    have nb2 := (hB1a2.alloc hB1a2.size _).grown hg2 (by have := hB1a2.size; simp; omega) (fun k hk => by have := (hO1a2.lt k hk).1; omega)
    have hO1a2a : y2.ownsRow w.heap.size 95 1 v2 2 (ptrs b [1, 2]) := owns_snocP (N := [1]) oa2
    have k1a2a := (k1a2.alloc (.cells #[.pointer (some ⟨b, 2, none⟩)] 95)).grown hg2 (fun g hg => by have := (hO1a2.lt g hg).1; omega)
    clear hO1a2 k1a2 hB1a2 oa2 hg2
    have hB1a2a := nb2
    clear nb2
    obtain ⟨hc0, -⟩ := k1a2a.at_ 0 rfl
    obtain ⟨hc1, -⟩ := k1a2a.at_ 1 rfl
    obtain ⟨hc2, -⟩ := k1a2a.at_ 2 rfl
    obtain ⟨hc3, -⟩ := k1a2a.at_ 3 rfl
    go_wp2_with fail
    refine (ins_op x _).mono ?_
    rintro e u3 ⟨rfl, hp3⟩
    clear hc0 hc1 hc2 hc3
    go_wp2_with fail
    refine (HU3.out _).mono ?_
    rintro e z3 ⟨rfl, hq3⟩
    have hr3 := hp3.trans (hq3.mono hp3.size)
    have k1a2a3 := k1a2a.below hr3 k1a2a.lt
    have hO1a2a3 := ownsRow_below hO1a2a hr3
    have hB1a2a3 := hB1a2a.trans (hr3.mono hB1a2a.size)
    clear k1a2a hO1a2a hB1a2a hp3 hq3 hr3
    go_wp2_with (at_builtin; refine wpList_append_own _ rfl _ _ 93 rfl (w.heap.size) 95 i (.pointer none) 1 8 Tryz.underlying93 hi hiz0 hiz1 hiz2 rfl (by decide) _ _ _ rfl (hO1a2a3.alloc _) ⟨z3.heap.size, 0, none⟩ 1 1 [.pointer (some ⟨b, 3, none⟩)] rfl rfl (new_cells _ _ _) (by simp [Value.oneCell']) (by unfold maxLen; omega) (by omega) (by have := hB1a2a3.size; simp; omega) ?_)
    intro v3 y3 oa3 hg3 _
    have nb3 := (hB1a2a3.alloc hB1a2a3.size _).grown hg3 (by have := hB1a2a3.size; simp; omega) (fun k hk => by have := (hO1a2a3.lt k hk).1; omega)
    have hO1a2a3a : y3.ownsRow w.heap.size 95 1 v3 3 (ptrs b [1, 2, 3]) := owns_snocP (N := [1, 2]) oa3
    have k1a2a3a := (k1a2a3.alloc (.cells #[.pointer (some ⟨b, 3, none⟩)] 95)).grown hg3 (fun g hg => by have := (hO1a2a3.lt g hg).1; omega)
    clear hO1a2a3 k1a2a3 hB1a2a3 oa3 hg3
    have hB1a2a3a := nb3
    clear nb3
    go_wp2_with fail
    go_ret
    exact ⟨_, rfl, by rw [HF.out]; exact hO1a2a3a, hB1a2a3a⟩
theorem opt_at {α : Type} {l : List α} {k : Nat} (h : k < l.length) : ∃ x, l[k]? = some x := ⟨l[k], List.getElem?_eq_getElem h⟩
set_option maxHeartbeats 1600000 in
theorem impl_InstrText (x : Ins) (w : World) (hR : InsR x) (ht : Tab w) (hn : Names w) :
    Calls Tryz.prog 29 #[(Value.agg #[.int .i64 x.o, .int .i64 x.r, .int .i64 x.s, .int .i64 x.n])] w fun e w' => e = .returned (str (instrTF x)) ∧ Below w.heap.size w w' := by
  obtain ⟨o, r, s, n⟩ := x
  have hB0 := (Below.refl w.heap.size w).alloc (Nat.le_refl _) (.cells #[.int .i64 o, .int .i64 r, .int .i64 s, .int .i64 n] 37)
  have k0 := Bk.new w #[.int .i64 o, .int .i64 r, .int .i64 s, .int .i64 n] 37
  have HT := Lib.hid ht
  have HNm := Lib.hid hn
  have HRr := Lib.hid hR
  clear ht hn hR
  have hK := fun W : World => toB (oc_known o W)
  cases hin : inB o 0 8
  · have HF : Hid (instrTF ⟨o, r, s, n⟩ = []) := Lib.hid (by simp [instrTF, hin])
    rw [hin] at hK
    have HK := Lib.hid hK
    clear hK hin
    go_enter Tryz.func29, Tryz.ntmps29
    go_wp2_with fail
    refine (ins_op ⟨o, r, s, n⟩ _).mono ?_
    rintro e w1 ⟨rfl, hb1⟩
    go_wp2_with fail
    refine (HK.out _).mono ?_
    rintro e w2 ⟨rfl, hb2⟩
    go_wp2_with fail
    go_ret
    exact ⟨ret_str HF.out.symm, hB0.trans ((hb1.trans (hb2.mono hb1.size)).mono hB0.size)⟩
  · have hwl := wordF_len hin
    have hoff := offs_form hin
    have HM := Lib.hid (formF_mem hin)
    have hl := formF_len o
    have ho := inB_true hin
    have hnm : wordTab[o.toNat]? = some (wordF o) := by
      rcases op_cases hin with rfl | rfl | rfl | rfl | rfl | rfl | rfl | rfl | rfl <;> rfl
    have HWT := Lib.hid hnm
    obtain ⟨f, hf⟩ : ∃ f, formF o = f := ⟨_, rfl⟩
    obtain ⟨W, hW⟩ : ∃ W, wordF o = W := ⟨_, rfl⟩
    have HF : Hid (instrTF ⟨o, r, s, n⟩ = W ++ f.flatMap (argF ⟨o, r, s, n⟩)) := Lib.hid (by simp [instrTF, hin, hf, hW])
    rw [hf] at hl HM hoff
    rw [hW] at hwl HWT
    rw [hin] at hK
    have HK := Lib.hid hK
    have HOF := Lib.hid hoff
    clear hK hin hf hW hnm hoff
    go_enter Tryz.func29, Tryz.ntmps29
    go_wp2_with fail
    refine (ins_op ⟨o, r, s, n⟩ _).mono ?_
    rintro e w1 ⟨rfl, hb1⟩
    go_wp2_with fail
    refine (HK.out _).mono ?_
    rintro e w2 ⟨rfl, hb2⟩
    have hb12 := hb1.trans (hb2.mono hb1.size)
    have k2 := k0.below hb12 k0.lt
    have hB2 := hB0.trans (hb12.mono hB0.size)
    obtain ⟨hc0, -⟩ := k2.at_ 0 rfl
    have hnc := (HNm.out.below hB2 (Nat.le_refl _)) o.toNat W HWT.out
    have hOp := impl_operands w.heap.size ⟨o, r, s, n⟩ w2 k2
    rw [HOF.out] at hOp
    have HOp := Lib.hid hOp
    clear k0 hB0 hb1 hb2 hb12 hOp
    go_wp2_with fail
    refine HOp.out.mono ?_
    rintro e w3 ⟨v3, rfl, hO3, hb3⟩
    have k3 := k2.below hb3 k2.lt
    have hB3 := hB2.trans (hb3.mono hB2.size)
    have hlen : (f.map offC).length = f.length := by simp
    rw [hlen] at hO3
    obtain ⟨A3, c3, rfl, hc3, hcm3⟩ := owns_slice hO3
    obtain ⟨bs3, hOw, -⟩ := Own.of_owns hO3
    obtain ⟨A4, c4, hLe, -, -, -, hLr⟩ := hOw.rd
    injection hLe with e1 e2 e3
    subst e1
    subst e3
    clear e2 hOw hO3 k2 hB2 hb3 hc0 hnc hlen
    go_wp2_with fail
    go_loopw [3, 16] (fun t i wr => ∃ (k : Nat) (L : List UInt8), k ≤ f.length ∧ i = .int .i64 k ∧ t = str L ∧ Hid (L = W ++ (f.take k).flatMap (argF ⟨o, r, s, n⟩)) ∧ Below w3.heap.size w3 wr) (fun _ i _ => f.length - (intOf i).toNat)
    case atStart => exact ⟨0, W, Nat.zero_le _, rfl, rfl, Lib.hid (by simp), Below.refl _ _⟩
    case round =>
      obtain ⟨k, L, hk, rfl, rfl, HL, hB⟩ := hrel
      have kr := k3.below hB k3.lt
      by_cases hlt : k < f.length
      · obtain ⟨b3, o3, rfl, hbl3, hcell3⟩ := hLr (by omega)
        obtain ⟨c, hc⟩ := opt_at hlt
        have hpc := (hB.cell (p := ⟨b3, o3 + k, none⟩) hbl3).trans (hcell3 k (.pointer (some ⟨w.heap.size, offC c, none⟩)) (by simp [ptrs, hc]))
        have HTk : Hid (W ++ (f.take (k + 1)).flatMap (argF ⟨o, r, s, n⟩) = L ++ argF ⟨o, r, s, n⟩ c) := Lib.hid (by rw [List.take_add_one, hc, HL.out]; simp)
        have hLl : L.length ≤ 5 + 21 * k := by
          rw [HL.out, List.length_append]
          have := flat_len HRr.out (f.take k)
          rw [List.length_take] at this
          omega
        have hm := HM.out c (List.mem_of_getElem? hc)
        have hTab := HT.out.below (hB3.trans (hB.mono hB3.size)) (Nat.le_refl _)
        have HTB := Lib.hid hTab
        clear hc hcell3 hLr hTab
        rcases hm with rfl | rfl | rfl
        · have hr2 := digs_len HRr.out.2.1
          obtain ⟨hc1, -⟩ := kr.at_ 1 rfl
          have hpc' : wr.cell? ⟨b3, o3 + k, none⟩ = some (.pointer (some ⟨w.heap.size, 1, none⟩)) := hpc
          clear hpc
          go_wp2_with fail
          refine (itoa_call r _ HRr.out.2.1 HTB.out).mono ?_
          rintro e w4 ⟨rfl, hb4⟩
          go_wp2_with fail
          refine ⟨⟨k + 1, L ++ argF ⟨o, r, s, n⟩ 114, by omega, by go_num, ?_, Lib.hid HTk.out.symm, hB.trans (hb4.mono hB.size)⟩, by simp [intOf]; omega⟩
          exact congrArg Value.string (((congrArg (_ ++ ·) (bytes_app [32] _)).trans (bytes_app _ _)).trans (by simp [argF, fldF]))
        · have hr2 := digs_len HRr.out.2.2.1
          obtain ⟨hc1, -⟩ := kr.at_ 2 rfl
          have hpc' : wr.cell? ⟨b3, o3 + k, none⟩ = some (.pointer (some ⟨w.heap.size, 2, none⟩)) := hpc
          clear hpc
          go_wp2_with fail
          refine (itoa_call s _ HRr.out.2.2.1 HTB.out).mono ?_
          rintro e w4 ⟨rfl, hb4⟩
          go_wp2_with fail
          refine ⟨⟨k + 1, L ++ argF ⟨o, r, s, n⟩ 115, by omega, by go_num, ?_, Lib.hid HTk.out.symm, hB.trans (hb4.mono hB.size)⟩, by simp [intOf]; omega⟩
          exact congrArg Value.string (((congrArg (_ ++ ·) (bytes_app [32] _)).trans (bytes_app _ _)).trans (by simp [argF, fldF]))
        · have hr2 := digs_len HRr.out.2.2.2
          obtain ⟨hc1, -⟩ := kr.at_ 3 rfl
          have hpc' : wr.cell? ⟨b3, o3 + k, none⟩ = some (.pointer (some ⟨w.heap.size, 3, none⟩)) := hpc
          clear hpc
          go_wp2_with fail
          refine (itoa_call n _ HRr.out.2.2.2 HTB.out).mono ?_
          rintro e w4 ⟨rfl, hb4⟩
          go_wp2_with fail
          refine ⟨⟨k + 1, L ++ argF ⟨o, r, s, n⟩ 110, by omega, by go_num, ?_, Lib.hid HTk.out.symm, hB.trans (hb4.mono hB.size)⟩, by simp [intOf]; omega⟩
          exact congrArg Value.string (((congrArg (_ ++ ·) (bytes_app [32] _)).trans (bytes_app _ _)).trans (by simp [argF, fldF]))
      · obtain rfl : k = f.length := by omega
        have HN := HL.out
        rw [List.take_length, ← HF.out] at HN
        have HN := Lib.hid HN
        clear hLr
        go_wp2_with fail
        go_ret
        exact ⟨ret_str HN.out, hB3.trans (hB.mono hB3.size)⟩
end Go.Proofs.YtgbgjlmkmlhefaaGreatDoor
