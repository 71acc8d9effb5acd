/- Contracts of the laws' helpers over a memory: size, copy, equality, marks and their look-up. Condition: at most 1048576 cells. -/
import Derived.Test.YtiflooopfpcelacDoorInts
namespace Go.Proofs.YtiflooopfpcelacDoor
set_option maxRecDepth 20000
set_option linter.unusedSimpArgs false
set_option linter.unusedVariables false
open Go.ChangeShapes Go.WideShapes Go.ChangeAt Go.RowKit
set_option linter.unusedVariables false
set_option maxHeartbeats 400000 in
theorem szMem (v : Value) (n : Nat) (cs : List Value) (left : Int) (w : World) (h : RdA w v 1 n cs) (hl0 : -1 ≤ left) (hl : left ≤ 1048576) :
    Calls Tryd.prog 56 #[.agg #[v], .int .i64 left] w fun e w' => e = .returned (.int .i64 (szF n left)) ∧ Below w.heap.size w w' := by
  obtain ⟨A, c, rfl, -, -, -, -⟩ := id h
  by_cases hx : left - n < 0
  · have hs : szF n left = -1 := by unfold szF; rw [if_pos hx]
    have HS := Lib.hid hs
    clear hs hx
    go_enter Tryd.func56, Tryd.ntmps56
    go_wp2_with fail
    refine (szIntS _ n cs left _ (h.below ((Below.refl _ _).alloc (Nat.le_refl _) _)) hl0 hl).mono ?_
    rintro e w1 ⟨rfl, rfl⟩
    rw [HS.out]
    go_wp2_with fail
    go_ret
    exact ⟨ret_int HS.out.symm, (Below.refl _ _).alloc (Nat.le_refl _) _⟩
  · have hs : szF n left = left - n := by unfold szF; rw [if_neg hx]
    have HS := Lib.hid hs
    have hx' : 0 ≤ left - n := by omega
    clear hs hx
    go_enter Tryd.func56, Tryd.ntmps56
    go_wp2_with fail
    refine (szIntS _ n cs left _ (h.below ((Below.refl _ _).alloc (Nat.le_refl _) _)) hl0 hl).mono ?_
    rintro e w1 ⟨rfl, rfl⟩
    rw [HS.out]
    go_wp2_with fail
    go_ret
    exact ⟨ret_int HS.out.symm, (Below.refl _ _).alloc (Nat.le_refl _) _⟩
/-- returns a memory of its own -/
def RetMem (L : List Int) (w : World) (e : Ending) (w' : World) : Prop :=
  ∃ v' bs, e = .returned (.agg #[v']) ∧ Own w' v' 1 L.length (ints L) bs ∧ (∀ b ∈ bs, w.heap.size ≤ b) ∧ Below w.heap.size w w'
set_option maxHeartbeats 400000 in
theorem toMem (v : Value) (xs : List Int) (w : World) (h : RdA w v 1 xs.length (ints xs)) (hsz : xs.length ≤ 1048576) :
    Calls Tryd.prog 60 #[.agg #[v]] w (RetMem xs w) := by
  obtain ⟨A, c, rfl, -, -, -, -⟩ := id h
  go_enter Tryd.func60, Tryd.ntmps60
  go_wp2_with fail
  refine (toIntS _ xs _ (h.below ((((Below.refl _ _).alloc (Nat.le_refl _) _).alloc (by simp) _).alloc (by simp; omega) _)) hsz).mono ?_
  rintro e w1 ⟨v1, bs1, rfl, ho1, hbs1, hb1⟩
  obtain ⟨A1, c1, rfl, hcc1, hcm1⟩ := ho1.slice
  have k1 := (((Bk.new w #[.slice A xs.length c] 43).alloc (.cells #[.slice none 0 0] 49)).alloc (.cells #[.slice none 0 0] 49)).below hb1 (by simp; omega)
  have k2 := ((Bk.new (w.alloc (.cells #[.slice A xs.length c] 43)) #[.slice none 0 0] 49).alloc (.cells #[.slice none 0 0] 49)).below hb1 (by simp)
  have k3 := (Bk.new ((w.alloc (.cells #[.slice A xs.length c] 43)).alloc (.cells #[.slice none 0 0] 49)) #[.slice none 0 0] 49).below hb1 (by simp)
  have hB1 := ((((Below.refl w.heap.size w).alloc (Nat.le_refl _) _).alloc (by simp) _).alloc (by simp; omega) _).trans (hb1.mono (by simp; omega))
  rw [World.size_alloc] at k2
  rw [World.size_alloc, World.size_alloc] at k3
  simp only [World.size_alloc] at hbs1
  obtain ⟨hc2, hf2⟩ := k2.at_ 0 rfl
  obtain ⟨hc3, hf3⟩ := k3.at_ 0 rfl
  obtain ⟨hc3', hf3'⟩ := (k3.set_ 0 (.slice A1 xs.length c1)).at_ 0 rfl
  obtain ⟨hc2', hf2'⟩ := (k2.far (p := ⟨w.heap.size + 1 + 1, 0, none⟩) (by simp) (.slice A1 xs.length c1)).at_ 0 rfl
  go_wp2_with fail
  refine bodyPost_ret (v := .agg #[.slice A1 xs.length c1]) (by simp [results, Tryd.results60, go_sem, hc2']) rfl ⟨_, bs1, rfl, ?_, fun b hb => by have := hbs1 b hb; omega, ?_⟩
  · exact (ho1.far fun k hk => by have := hbs1 k hk; omega).far fun k hk => by have := hbs1 k hk; omega
  · exact (hB1.setCell (by show w.heap.size ≤ w.heap.size + 1 + 1; omega) _).setCell (Nat.le_succ _) _
set_option maxHeartbeats 400000 in
theorem eqMem (v u : Value) (xs ys : List Int) (w : World) (h : Rd w v 1 xs.length (ints xs)) (h' : Rd w u 1 ys.length (ints ys)) :
    Calls Tryd.prog 65 #[.agg #[v], .agg #[u]] w fun e w' => e = .returned (.bool (decide (xs = ys))) ∧ Below w.heap.size w w' := by
  obtain ⟨A, c, rfl, -, -, -, -⟩ := id h
  obtain ⟨A', c', rfl, -, -, -, -⟩ := id h'
  have hB := ((Below.refl w.heap.size w).alloc (Nat.le_refl _) (.cells #[.slice A xs.length c] 49)).alloc (by simp) (.cells #[.slice A' ys.length c'] 49)
  go_enter Tryd.func65, Tryd.ntmps65
  go_wp2_with fail
  refine (eqIntS _ _ xs ys _ (h.below hB) (h'.below hB)).mono ?_
  rintro e w1 ⟨rfl, n, rfl⟩
  cases hd : decide (xs = ys)
  all_goals
    have HD := Lib.hid hd
    clear hd
    go_wp2_with fail
    go_ret
    exact ⟨ret_bool HD.out.symm, below_more hB n⟩
theorem eqMemB (v u : Value) (xs ys : List Int) (w : World) (h : Rd w v 1 xs.length (ints xs)) (h' : Rd w u 1 ys.length (ints ys)) :
    Calls Tryd.prog 65 #[.agg #[v], .agg #[u]] w fun e w' => e = .returned (.bool (decide (xs = ys))) ∧ Below w.heap.size w w' := eqMem v u xs ys w h h'
theorem eqIntSB (v u : Value) (xs ys : List Int) (w : World) (h : Rd w v 1 xs.length (ints xs)) (h' : Rd w u 1 ys.length (ints ys)) :
    Calls Tryd.prog 99 #[v, u] w fun e w' => e = .returned (.bool (decide (xs = ys))) ∧ Below w.heap.size w w' :=
  (eqIntS v u xs ys w h h').mono fun e w' ⟨he, n, hw⟩ => ⟨he, hw ▸ below_drewN w n⟩
end Go.Proofs.YtiflooopfpcelacDoor
