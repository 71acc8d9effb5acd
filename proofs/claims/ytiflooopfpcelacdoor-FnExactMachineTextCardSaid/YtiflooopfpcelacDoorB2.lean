/- Contracts of chapter 3's program functions (package impl): a valid slot, a valid buffer, the queue's copies, PutSlot, Waits. Condition: the slices can be read. -/
import Derived.Test.YtiflooopfpcelacDoorB1
import Derived.Test.YtiflooopfpcelacDoorI1
import Derived.Test.YtiflooopfpcelacDoorSteps
import Derived.Deep.RegionLaw
import Derived.Lib.SliceRun
namespace Go.Proofs.YtiflooopfpcelacDoor
set_option maxRecDepth 20000
set_option linter.unusedSimpArgs false
set_option linter.unusedVariables false
open Go.ChangeShapes Go.WideShapes Go.ChangeAt Go.RowKit
set_option linter.unusedVariables false
set_option maxHeartbeats 800000 in
theorem impl_slotValid (x : P2) (w : World) :
    Calls Tryd.prog 90 #[.agg #[.int .i64 x.a, .int .i64 x.b]] w fun e w' => e = .returned (.bool (slotOk x)) ∧ Below w.heap.size w w' := by
  obtain ⟨a, b⟩ := x
  have hB := (Below.refl w.heap.size w).alloc (Nat.le_refl _) (.cells #[.int .i64 a, .int .i64 b] 81)
  have HB := Lib.hid hB
  clear hB
  cases h0 : inB a 0 15
  · have HS : Hid (slotOk ⟨a, b⟩ = false) := Lib.hid (by simp [slotOk, h0])
    have HI : Hid (∀ w : World, Calls Tryd.prog 112 #[.int .i64 a, .int .i64 16] w fun e w' => e = .returned (.bool false) ∧ w = w') := Lib.hid fun w => by have := impl_indexOk a 16 w; rwa [show inB a 0 (16 - 1) = false from h0] at this
    clear h0
    go_enter Tryd.func90, Tryd.ntmps90
    go_wp2_with (go_at_call 112; refine (HI.out _).mono ?_; rintro e w' ⟨rfl, rfl⟩)
    go_ret
    exact ⟨ret_bool HS.out.symm, HB.out⟩
  · have HS : Hid (slotOk ⟨a, b⟩ = valB b) := Lib.hid (by simp [slotOk, h0])
    have HI : Hid (∀ w : World, Calls Tryd.prog 112 #[.int .i64 a, .int .i64 16] w fun e w' => e = .returned (.bool true) ∧ w = w') := Lib.hid fun w => by have := impl_indexOk a 16 w; rwa [show inB a 0 (16 - 1) = true from h0] at this
    clear h0
    go_enter Tryd.func90, Tryd.ntmps90
    go_wp2_with (first | (go_at_call 112; refine (HI.out _).mono ?_; rintro e w' ⟨rfl, rfl⟩) | (go_at_call 89; refine (impl_valueOk _ _).mono ?_; rintro e w' ⟨rfl, rfl⟩))
    go_ret
    exact ⟨ret_bool HS.out.symm, HB.out⟩
set_option maxHeartbeats 800000 in
theorem impl_BufOk (v : Value) (xs : List P2) (w : World) (h : Rd w v 2 xs.length (flc2 xs)) :
    Calls Tryd.prog 52 #[v] w fun e w' => e = .returned (.bool (bufOk xs)) ∧ Below w.heap.size w w' := by
  obtain ⟨A, c, rfl, -, hnc, hc, hr⟩ := h
  unfold maxLen at hc
  by_cases hlen : xs.length ≤ 3
  · go_enter Tryd.func52, Tryd.ntmps52
    go_wp2_with fail
    go_loopw [10] (fun i wr => ∃ k : Nat, k ≤ xs.length ∧ i = .int .i64 k ∧ Hid ((xs.take k).all slotOk = true) ∧ Below w.heap.size w wr) (fun i _ => xs.length - (intOf i).toNat)
    case atStart => exact ⟨0, Nat.zero_le _, rfl, Lib.hid (by simp), Below.refl _ _⟩
    case round =>
      obtain ⟨k, hk, rfl, HA, hB⟩ := hrel
      by_cases hlt : k < xs.length
      · obtain ⟨b, o, rfl, hb, hcell⟩ := hr (by omega)
        obtain ⟨x, hxk, hx0, hx1⟩ := p2_at (fun j u hu => (hB.cell (p := ⟨b, o + j, none⟩) hb).trans (hcell j u hu)) hlt
        clear hcell hr
        have hBa := hB.alloc hB.size (.cells #[.int .i64 x.a, .int .i64 x.b] 81)
        cases hs : slotOk x
        · have HN : Hid (bufOk xs = false) := Lib.hid (by simp [bufOk, allP_not (p := slotOk) hxk.out hs])
          go_wp2_with fail
          refine (impl_slotValid x _).mono ?_
          rintro e w1 ⟨rfl, hb1⟩
          rw [hs]
          go_wp2_with fail
          go_ret
          exact ⟨ret_bool HN.out.symm, hBa.trans (hb1.mono hBa.size)⟩
        · have HS := Lib.hid (allP_snoc (p := slotOk) HA.out hxk.out hs)
          go_wp2_with fail
          refine (impl_slotValid x _).mono ?_
          rintro e w1 ⟨rfl, hb1⟩
          rw [hs]
          go_wp2_with fail
          exact ⟨⟨k + 1, by omega, by go_num, HS, hBa.trans (hb1.mono hBa.size)⟩, by simp [intOf]; omega⟩
      · go_wp2_with fail
        go_ret
        obtain rfl : k = xs.length := by omega
        have := HA.out
        rw [List.take_length] at this
        exact ⟨ret_bool (by simp [bufOk, hlen, this]), hB⟩
  · go_enter Tryd.func52, Tryd.ntmps52
    go_wp2
    go_ret
    exact ⟨ret_bool (by simp [bufOk, hlen]), Below.refl _ _⟩
end Go.Proofs.YtiflooopfpcelacDoor
