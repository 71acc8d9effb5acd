/- Contract of slices.Delete of one number out of a row of one's own. Condition: the place lies in the row. -/
import Derived.Test.YtiamkgkhamnaeaaN15
import Derived.Lib.SliceRun
import Derived.Lib.AppendZerosOnto
import Derived.Laws.OwnMore
namespace Go.Proofs.Ytiamkgkhamnaeaa
set_option maxRecDepth 20000
set_option linter.unusedSimpArgs false
set_option linter.unusedVariables false
open Go.ChangeShapes Go.WideShapes Go.ChangeAt Go.RowKit
set_option linter.unusedVariables false
theorem owns_beyond {w : World} {lo : Nat} {e : TypeId} {size g cap m : Nat} {L : List Value} (h : w.ownsRow lo e size (.slice (some ⟨g, 0, none⟩) m cap) m L) {j : Nat} (hj : m * size ≤ j) (u : Value) : (w.setCell ⟨g, j, none⟩ u).ownsRow lo e size (.slice (some ⟨g, 0, none⟩) m cap) m L := by
  obtain ⟨hl, ⟨h1, -⟩ | ⟨g', cap', cur, he, hb, hg, hn, hm, hc, ht⟩⟩ := h
  · cases h1
  · injection he with e1 _ e2
    injection e1 with e1
    injection e1 with e1
    subst e1 e2
    refine ⟨hl, .inr ⟨g, cap, cur.setIfInBounds j u, rfl, hb, ?_, hn, hm, by simpa using hc, ?_⟩⟩
    · simp [World.setCell, Array.getElem?_modify, hg]
    · rw [Array.toList_setIfInBounds, List.take_set_of_le hj, ht]
theorem owns_prefix {w : World} {lo : Nat} {e : TypeId} {size g cap m : Nat} {L : List Value} (h : w.ownsRow lo e size (.slice (some ⟨g, 0, none⟩) m cap) m L) {k : Nat} (hk : k ≤ m) : w.ownsRow lo e size (.slice (some ⟨g, 0, none⟩) k cap) k (L.take (k * size)) := by
  obtain ⟨hl, ⟨h1, -⟩ | ⟨g', cap', cur, he, hb, hg, hn, hm, hc, ht⟩⟩ := h
  · cases h1
  · injection he with e1 _ e2
    injection e1 with e1
    injection e1 with e1
    subst e1 e2
    have hks : k * size ≤ m * size := Nat.mul_le_mul_right _ hk
    refine ⟨by rw [List.length_take]; omega, .inr ⟨g, cap, cur, rfl, hb, hg, by omega, hm, hc, ?_⟩⟩
    rw [← ht, List.take_take, Nat.min_eq_left hks]
theorem owns_spare {w : World} {lo : Nat} {e : TypeId} {size g cap m : Nat} {L : List Value} (h : w.ownsRow lo e size (.slice (some ⟨g, 0, none⟩) m cap) m L) {j : Nat} (hj : j < cap * size) : (w.cell? ⟨g, j, none⟩).isSome = true ∧ w.frozen? ⟨g, j, none⟩ = false := by
  obtain ⟨hl, ⟨h1, -⟩ | ⟨g', cap', cur, he, hb, hg, hn, hm, hc, ht⟩⟩ := h
  · cases h1
  · injection he with e1 _ e2
    injection e1 with e1
    injection e1 with e1
    subst e1 e2
    refine ⟨?_, by simp [World.frozen?, hg]⟩
    rw [cell_of_row w g j cur e (0, 0) hg]
    simp [hc, hj]
set_option maxHeartbeats 1600000 in
theorem deleteIT (g cap k : Nat) (xs : List Int) (lo : Nat) (w : World) (hO : w.ownsRow lo 3 1 (.slice (some ⟨g, 0, none⟩) xs.length cap) xs.length (ints xs)) (hk : k < xs.length) (hcn : xs.length ≤ cap) (hcm : cap ≤ 9223372036854775807) :
    Calls Try.prog 85 #[.slice (some ⟨g, 0, none⟩) xs.length cap, .int .i64 k, .int .i64 (k + 1)] w fun e w' => e = .returned (.slice (some ⟨g, 0, none⟩) (xs.length - 1) cap) ∧
      w'.ownsRow lo 3 1 (.slice (some ⟨g, 0, none⟩) (xs.length - 1) cap) (xs.length - 1) (ints (xs.eraseIdx k)) ∧ Only [g] w w' := by
  obtain ⟨i, hi, hiz0, hiz1, hiz2⟩ := info_parts infoInt
  have hc1 : cap ≠ xs.length - 1 := by omega
  have hk1 : ((k : Int) == k + 1) = false := by simp; omega
  obtain ⟨w0, hw0⟩ : ∃ w0, w0 = w.drew := ⟨_, rfl⟩
  have hO0 : w0.ownsRow lo 3 1 (.slice (some ⟨g, 0, none⟩) xs.length cap) xs.length (ints xs) := by rw [hw0]; exact hO.drew
  have ho0 : Only [g] w w0 := by rw [hw0]; exact Only.of_below (Below.refl _ _).drew _
  have hpre := owns_prefix hO0 (Nat.le_of_lt hk)
  obtain ⟨A, hA, hsrc⟩ : ∃ A : Addr, (if cap = k + 1 then some (⟨g, 0, none⟩ : Addr) else some ⟨g, k + 1, none⟩) = some A ∧ (∀ j u, (ints (xs.drop (k + 1)))[j]? = some u → w0.cell? (A.add j) = some u) := by
    by_cases h : cap = k + 1
    · refine ⟨_, if_pos h, fun j u hu => ?_⟩
      have := (List.getElem?_eq_some_iff.1 hu).1
      simp [ints] at this
      omega
    · refine ⟨_, if_neg h, fun j u hu => ?_⟩
      have hj := (List.getElem?_eq_some_iff.1 hu).1
      simp [ints] at hj
      have hu' : (ints xs)[k + 1 + j]? = some u := by rw [← hu]; simp [ints, List.getElem?_drop]
      have hcell := (hO0.cellAt (k + 1 + j) (by omega)).trans hu'
      unfold Addr.add
      split
      · rename_i h0
        subst h0
        exact hcell
      · exact hcell
  obtain ⟨w6, hr, hO6, hg6⟩ := run_append_fits (P := Try.prog) w0 lo 22 0 3 i 1 Try.underlying22 hi hiz1 g k cap _ hpre A (xs.length - (k + 1)) (cap - (k + 1)) (ints (xs.drop (k + 1))) (by simp [ints]) hsrc (fun u hu => by obtain ⟨x, -, rfl⟩ := List.mem_map.1 hu; rfl) (by omega)
  have hap : ∀ ty, (Builtin.append_ #[22, 22] ty #[.slice (some ⟨g, 0, none⟩) k cap, .slice (some A) (xs.length - (k + 1)) (cap - (k + 1))]).run Try.prog w0 = .ok (.slice (some ⟨g, 0, none⟩) (xs.length - 1) cap) w6 := fun ty => by
    have h := hr
    rw [show k + (xs.length - (k + 1)) = xs.length - 1 by omega] at h
    exact h
  have hE : ints (xs.take k) ++ ints (xs.drop (k + 1)) = ints (xs.eraseIdx k) := by simp [ints, List.eraseIdx_eq_take_drop_succ]
  rw [show k + (xs.length - (k + 1)) = xs.length - 1 by omega, show (ints xs).take (k * 1) = ints (xs.take k) by simp [ints], hE] at hO6
  obtain ⟨hsc, hsf⟩ := owns_spare (j := xs.length - 1) hO6 (by omega)
  have hcl : ∀ ty c, (Builtin.clear_ #[22] ty #[.slice (some ⟨g, xs.length - 1, none⟩) (xs.length - (xs.length - 1)) c]).run Try.prog w6 = .ok (.tuple #[]) (w6.setCell ⟨g, xs.length - 1, none⟩ (.int .i64 0)) := fun ty c => by
    rw [show xs.length - (xs.length - 1) = 1 by omega]
    have h := Lib.run_clear_slice (P := Try.prog) w6 22 3 ty (.int .i64 0) Try.underlying22 (fun w => by kernel_rfl) rfl rfl g (xs.length - 1) 1 c (by omega) (fun j hj => by rw [show j = 0 by omega]; simpa using hsc) (fun j hj => by rw [show j = 0 by omega]; simpa using hsf)
    simpa [World.setCells] using h
  have HFIN := Lib.hid (And.intro (owns_beyond hO6 (j := xs.length - 1) (by omega) (.int .i64 0)) ((ho0.trans ⟨hg6.os, hg6.tape, hg6.output, hg6.size, fun b hb hn => hg6.block b hb (by intro e; injection e with e; exact hn (by simp [e]))⟩).trans (Only.setCell w6 (b := g) (i := xs.length - 1) (.int .i64 0))))
  have hkn : k + 1 ≤ xs.length := hk
  clear hO hO0 hpre hsrc hr hO6 hg6 hE hsc hsf ho0
  go_enter Try.func85, Try.ntmps85
  go_wp2_with fail
  refine wp_region_two 6 6 (fun _ => True) (fun _ => True) (by kernel_rfl) ?_
  rw [← hw0]
  refine wpAnyX_pass (C := (fun _ => True)) none [true, true, true, true, true, true] rfl (by kernel_rfl) (fun _ _ t _ _ h => by cases t <;> exact h) ⟨fun _ => trivial, fun _ => trivial⟩ ?_
  simp only [keepOps]
  repeat (go_big_quiet_step (fail))
  refine wpQuiet_nil ?_
  refine wpAnyX_one 6 rfl (by kernel_rfl) (by kernel_rfl) ?_
  refine Lib.wpList_append_run _ rfl _ _ _ _ rfl _ _ rfl rfl _ _ (hap _) ?_
  clear hap hA
  go_wp2_with fail
  refine ⟨⟨fun _ => trivial, fun _ => trivial⟩, ?_⟩
  refine wpAnyX_one 7 rfl (by kernel_rfl) (by kernel_rfl) ?_
  go_wp2_with fail
  refine ⟨⟨fun _ => trivial, fun _ => trivial⟩, ?_⟩
  refine wpAnyX_done (by kernel_rfl) ?_
  try dsimp only
  have hc2 : ((xs.length - 1 : Nat) : Int) = (xs.length : Int) - 1 := by omega
  go_wp2_with fail
  go_ret
  exact ⟨rfl, HFIN.out⟩
end Go.Proofs.Ytiamkgkhamnaeaa
