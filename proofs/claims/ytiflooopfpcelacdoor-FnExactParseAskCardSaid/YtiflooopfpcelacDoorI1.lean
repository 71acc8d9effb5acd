/- Contracts of chapter 1's functions (package impl): what each returns, for every memory that can be read and every integer. -/
import Derived.Test.YtiflooopfpcelacDoorS1
import Derived.Deep.RegionLaw
import Derived.Laws.CopyOwn
namespace Go.Proofs.YtiflooopfpcelacDoor
set_option maxRecDepth 20000
set_option linter.unusedSimpArgs false
set_option linter.unusedVariables false
open Go.ChangeShapes Go.WideShapes Go.ChangeAt Go.RowKit
set_option linter.unusedVariables false
set_option maxHeartbeats 400000 in
theorem impl_Clamp (x : Int) (w : World) :
    Calls Tryd.prog 111 #[.int .i64 x] w fun e w' => e = .returned (.int .i64 (clampF x)) ∧ w = w' := by
  go_enter Tryd.func111, Tryd.ntmps111
  go_wp2
  all_goals go_ret
  all_goals exact ⟨ret_int (by simp only [clampF]; omega), rfl⟩
set_option maxHeartbeats 400000 in
theorem impl_valueOk (x : Int) (w : World) :
    Calls Tryd.prog 89 #[.int .i64 x] w fun e w' => e = .returned (.bool (valB x)) ∧ w = w' := by
  have hv : (x == clampF x) = valB x := by
    rw [Bool.eq_iff_iff]
    simp only [beq_iff_eq, valB, inB, clampF, Bool.and_eq_true, decide_eq_true_eq]
    omega
  have HV := Lib.hid hv
  clear hv
  go_enter Tryd.func89, Tryd.ntmps89
  go_wp2_with (go_at_call 111; refine (impl_Clamp _ _).mono ?_; rintro e w' ⟨rfl, rfl⟩)
  all_goals go_ret
  exact ⟨ret_bool HV.out, rfl⟩
set_option maxHeartbeats 400000 in
theorem impl_indexOk (i n : Int) (w : World) :
    Calls Tryd.prog 112 #[.int .i64 i, .int .i64 n] w fun e w' => e = .returned (.bool (inB i 0 (n - 1))) ∧ w = w' := by
  by_cases h1 : 0 ≤ i
  · go_enter Tryd.func112, Tryd.ntmps112
    go_wp2
    go_ret
    exact ⟨ret_bool (by simp only [inB]; rw [Bool.eq_iff_iff]; simp [h1]; omega), rfl⟩
  · go_enter Tryd.func112, Tryd.ntmps112
    go_wp2
    go_ret
    exact ⟨ret_bool (by simp only [inB]; rw [Bool.eq_iff_iff]; simp; omega), rfl⟩
set_option maxHeartbeats 400000 in
theorem impl_MemOk (v : Value) (xs : List Int) (w : World) (h : Rd w v 1 xs.length (ints xs)) :
    Calls Tryd.prog 62 #[.agg #[v]] w fun e w' => e = .returned (.bool (memOk xs)) ∧ Below w.heap.size w w' := by
  obtain ⟨A, c, rfl, -, hnc, hc, hr⟩ := h
  unfold maxLen at hc
  have hsz : xs.length ≤ 9223372036854775807 := by omega
  by_cases h0 : (xs.length : Int) < 1
  · have hs : memOk xs = false := by simp [memOk, inB]; omega
    have HS := Lib.hid hs
    clear hs
    go_enter Tryd.func62, Tryd.ntmps62
    go_wp2_with fail
    go_ret
    exact ⟨ret_bool HS.out.symm, (Below.refl _ _).alloc (Nat.le_refl _) _⟩
  · by_cases h16 : (16 : Int) < xs.length
    · have hs : memOk xs = false := by simp [memOk, inB]; omega
      have HS := Lib.hid hs
      clear hs
      go_enter Tryd.func62, Tryd.ntmps62
      go_wp2_with fail
      go_ret
      exact ⟨ret_bool HS.out.symm, (Below.refl _ _).alloc (Nat.le_refl _) _⟩
    · have hin : inB xs.length 1 16 = true := by simp [inB]; omega
      obtain ⟨b, o, rfl, hb, hcell⟩ := hr (by omega)
      clear hr
      go_enter Tryd.func62, Tryd.ntmps62
      go_wp2_with fail
      go_loop [18] (fun i => ∃ k : Nat, k ≤ xs.length ∧ i = .int .i64 k ∧ Hid ((xs.take k).all valB = true)) (fun i => xs.length - (intOf i).toNat)
      case atStart => exact ⟨0, Nat.zero_le _, rfl, Lib.hid (by simp)⟩
      case round =>
        obtain ⟨k, hk, rfl, HA⟩ := hrel
        by_cases hlt : k < xs.length
        · obtain ⟨x, hxk, hx⟩ := int_at hcell hlt
          clear hcell
          cases hv : valB x
          · go_wp2_with (go_at_call 89; refine (impl_valueOk _ _).mono ?_; rintro e w' ⟨rfl, rfl⟩)
            go_ret
            exact ⟨ret_bool (by simp [memOk, all_not hxk.out hv]), (Below.refl _ _).alloc (Nat.le_refl _) _⟩
          · go_wp2_with (go_at_call 89; refine (impl_valueOk _ _).mono ?_; rintro e w' ⟨rfl, rfl⟩)
            exact ⟨⟨k + 1, by omega, by go_num, Lib.hid (all_snoc HA.out hxk.out hv)⟩, by simp [intOf]; omega⟩
        · go_wp2_with fail
          go_ret
          obtain rfl : k = xs.length := by omega
          have := HA.out
          rw [List.take_length] at this
          exact ⟨ret_bool (by simp [memOk, hin, this]), (Below.refl _ _).alloc (Nat.le_refl _) _⟩
end Go.Proofs.YtiflooopfpcelacDoor
