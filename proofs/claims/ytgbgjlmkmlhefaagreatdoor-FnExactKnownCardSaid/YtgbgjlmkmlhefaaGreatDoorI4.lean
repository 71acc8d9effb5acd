/- Contracts of chapter 2's opcodes (package impl): which fields an op uses, the limits of N. No condition. -/
import Derived.Test.YtgbgjlmkmlhefaaGreatDoorS2b
import Derived.Test.YtgbgjlmkmlhefaaGreatDoorI1
namespace Go.Proofs.YtgbgjlmkmlhefaaGreatDoor
set_option maxRecDepth 20000
set_option linter.unusedSimpArgs false
set_option linter.unusedVariables false
open Go.ChangeShapes Go.WideShapes Go.ChangeAt Go.RowKit
set_option linter.unusedVariables false
set_option maxHeartbeats 800000 in
theorem oc_Index (v : Value) (xs : List Int) (x : Int) (w : World) (h : Rd w v 1 xs.length (ints xs)) :
    Calls Tryz.prog 123 #[v, .int .i64 x] w fun e w' => ∃ r : Int, e = .returned (.int .i64 r) ∧ Hid (decide (0 ≤ r) = xs.any (· == x)) ∧ w = w' := by
  obtain ⟨A, c, rfl, -, hnc, hc, hr⟩ := h
  unfold maxLen at hc
  go_enter Tryz.func123, Tryz.ntmps123
  go_wp2
  go_loop [8] (fun i => ∃ k : Nat, k ≤ xs.length ∧ i = .int .i64 k ∧ Hid (xs.any (· == x) = (xs.drop k).any (· == x))) (fun i => xs.length - (intOf i).toNat)
  case atStart => exact ⟨0, Nat.zero_le _, rfl, Lib.hid rfl⟩
  case round =>
    obtain ⟨k, hk, rfl, HA⟩ := hrel
    by_cases hlt : k < xs.length
    · obtain ⟨b, o, rfl, hb, hcell⟩ := hr (by omega)
      obtain ⟨y, hyk, hy⟩ := int_at hcell hlt
      have hdr : xs.drop k = y :: xs.drop (k + 1) := by
        obtain ⟨h1, h2⟩ := List.getElem?_eq_some_iff.1 hyk.out
        rw [List.drop_eq_getElem_cons h1, h2]
      clear hcell hr
      by_cases he : x = y
      · subst he
        have HH : Hid (xs.any (· == x) = true) := Lib.hid (by rw [HA.out, hdr]; simp)
        have hq : (x == x) = true := by simp
        clear hdr
        go_wp2_with fail
        go_ret
        exact ⟨_, rfl, Lib.hid (by rw [HH.out]; simp), rfl⟩
      · have HH : Hid (xs.any (· == x) = (xs.drop (k + 1)).any (· == x)) := Lib.hid (by rw [HA.out, hdr]; simp [Ne.symm he])
        have hq : (x == y) = false := by simp [he]
        clear hdr
        go_wp2_with fail
        exact ⟨⟨k + 1, by omega, by go_num, HH⟩, by simp [intOf]; omega⟩
    · obtain rfl : k = xs.length := by omega
      have HH : Hid (xs.any (· == x) = false) := Lib.hid (by rw [HA.out]; simp)
      go_wp2_with fail
      go_ret
      exact ⟨_, rfl, Lib.hid (by rw [HH.out]; simp), rfl⟩
set_option maxHeartbeats 400000 in
theorem oc_Contains (v : Value) (xs : List Int) (x : Int) (w : World) (h : Rd w v 1 xs.length (ints xs)) :
    Calls Tryz.prog 108 #[v, .int .i64 x] w fun e w' => e = .returned (.bool (xs.any (· == x))) ∧ w = w' := by
  obtain ⟨A, c, rfl, -⟩ := id h
  go_enter Tryz.func108, Tryz.ntmps108
  go_wp2_with fail
  refine (oc_Index _ xs x _ h).mono ?_
  rintro e w1 ⟨r, rfl, HR, rfl⟩
  go_wp2_with fail
  go_ret
  exact ⟨ret_bool HR.out, rfl⟩
set_option maxHeartbeats 400000 in
theorem oc_is (x : Int) (v : Value) (xs : List Int) (w : World) (h : Rd w v 1 xs.length (ints xs)) :
    Calls Tryz.prog 95 #[.int .i64 x, v] w fun e w' => e = .returned (.bool (xs.any (· == x))) ∧ w = w' := by
  obtain ⟨A, c, rfl, -⟩ := id h
  go_enter Tryz.func95, Tryz.ntmps95
  go_wp2_with fail
  refine (oc_Contains _ xs x _ h).mono ?_
  rintro e w1 ⟨rfl, rfl⟩
  go_wp2_with fail
  go_ret
  exact ⟨rfl, rfl⟩
def inS (o : Int) : Bool := ([1, 5, 7, 8] : List Int).any (· == o)
def inA (o : Int) : Bool := ([2, 3, 5, 7] : List Int).any (· == o)
def inR (o : Int) : Bool := inB o 0 8 && o != 4
set_option maxHeartbeats 400000 in
theorem oc_usesS (o : Int) (w : World) :
    Calls Tryz.prog 81 #[.int .i64 o] w fun e w' => e = .returned (.bool (inS o)) ∧ Below w.heap.size w w' := by
  go_enter Tryz.func81, Tryz.ntmps81
  go_wp2_with fail
  refine (oc_is o _ [1, 5, 7, 8] _ (Rd.newInts w [1, 5, 7, 8] _ rfl (by decide))).mono ?_
  rintro e w2 ⟨rfl, rfl⟩
  rw [show ([1, 5, 7, 8] : List Int).any (· == o) = inS o from rfl]
  go_wp2_with fail
  go_ret
  exact ⟨rfl, (Below.refl _ _).alloc (Nat.le_refl _) _⟩
set_option maxHeartbeats 400000 in
theorem oc_usesAddress (o : Int) (w : World) :
    Calls Tryz.prog 96 #[.int .i64 o] w fun e w' => e = .returned (.bool (inA o)) ∧ Below w.heap.size w w' := by
  go_enter Tryz.func96, Tryz.ntmps96
  go_wp2_with fail
  refine (oc_is o _ [2, 3, 5, 7] _ (Rd.newInts w [2, 3, 5, 7] _ rfl (by decide))).mono ?_
  rintro e w2 ⟨rfl, rfl⟩
  rw [show ([2, 3, 5, 7] : List Int).any (· == o) = inA o from rfl]
  go_wp2_with fail
  go_ret
  exact ⟨rfl, (Below.refl _ _).alloc (Nat.le_refl _) _⟩
set_option maxHeartbeats 400000 in
theorem oc_known (o : Int) (w : World) :
    Calls Tryz.prog 55 #[.int .i64 o] w fun e w' => e = .returned (.bool (inB o 0 8)) ∧ w = w' := by
  by_cases h1 : 0 ≤ o
  · go_enter Tryz.func55, Tryz.ntmps55
    go_wp2
    go_ret
    exact ⟨ret_bool (by simp [inB, h1]), rfl⟩
  · go_enter Tryz.func55, Tryz.ntmps55
    go_wp2
    go_ret
    exact ⟨ret_bool (by simp [inB, h1]; try omega), rfl⟩
set_option maxHeartbeats 400000 in
theorem oc_usesR (o : Int) (w : World) :
    Calls Tryz.prog 80 #[.int .i64 o] w fun e w' => e = .returned (.bool (inR o)) ∧ w = w' := by
  cases hk : inB o 0 8
  · go_enter Tryz.func80, Tryz.ntmps80
    go_wp2_with (go_at_call 55; refine (oc_known _ _).mono ?_; rintro e w' ⟨rfl, rfl⟩)
    go_ret
    exact ⟨ret_bool (by simp [inR, hk]), rfl⟩
  · go_enter Tryz.func80, Tryz.ntmps80
    go_wp2_with (go_at_call 55; refine (oc_known _ _).mono ?_; rintro e w' ⟨rfl, rfl⟩)
    go_ret
    exact ⟨ret_bool (by simp [inR, hk]), rfl⟩
end Go.Proofs.YtgbgjlmkmlhefaaGreatDoor
