/- Contracts of chapter 2's opcodes (package impl): which fields an op uses, the limits of N. No condition. -/
import Derived.Test.YtgbgjlmkmlhefaaS2b
import Derived.Test.YtgbgjlmkmlhefaaI1
namespace Go.Proofs.Ytgbgjlmkmlhefaa
set_option maxRecDepth 20000
set_option linter.unusedSimpArgs false
set_option linter.unusedVariables false
open Go.ChangeShapes Go.WideShapes Go.ChangeAt Go.RowKit
set_option linter.unusedVariables false
set_option maxHeartbeats 800000 in
theorem oc_Index (v : Value) (xs : List Int) (x : Int) (w : World) (h : Rd w v 1 xs.length (ints xs)) :
    Calls Try.prog 108 #[v, .int .i64 x] w fun e w' => ∃ r : Int, e = .returned (.int .i64 r) ∧ Hid (decide (0 ≤ r) = xs.any (· == x)) ∧ w = w' := by
  obtain ⟨A, c, rfl, -, hnc, hc, hr⟩ := h
  unfold maxLen at hc
  go_enter Try.func108, Try.ntmps108
  go_wp2
  go_loop [8] (fun i => ∃ k : Nat, k ≤ xs.length ∧ i = .int .i64 k ∧ Hid (xs.any (· == x) = (xs.drop k).any (· == x))) (fun i => xs.length - (intOf i).toNat)
  case atStart => exact ⟨0, Nat.zero_le _, rfl, Lib.hid rfl⟩
  case round =>
    obtain ⟨k, hk, rfl, HA⟩ := hrel
    by_cases hlt : k < xs.length
    · obtain ⟨b, o, rfl, hb, hcell⟩ := hr (by omega)
      obtain ⟨y, hyk, hy⟩ := int_at hcell hlt
      have hdr : xs.drop k = y :: xs.drop (k + 1) := by
        obtain ⟨h1, h2⟩ := List.getElem?_eq_some_iff.1 hyk.out
        rw [List.drop_eq_getElem_cons h1, h2]
      clear hcell hr
      by_cases he : x = y
      · subst he
        have HH : Hid (xs.any (· == x) = true) := Lib.hid (by rw [HA.out, hdr]; simp)
        have hq : (x == x) = true := by simp
        clear hdr
        go_wp2_with fail
        go_ret
        exact ⟨_, rfl, Lib.hid (by rw [HH.out]; simp), rfl⟩
      · have HH : Hid (xs.any (· == x) = (xs.drop (k + 1)).any (· == x)) := Lib.hid (by rw [HA.out, hdr]; simp [Ne.symm he])
        have hq : (x == y) = false := by simp [he]
        clear hdr
        go_wp2_with fail
        exact ⟨⟨k + 1, by omega, by go_num, HH⟩, by simp [intOf]; omega⟩
    · obtain rfl : k = xs.length := by omega
      have HH : Hid (xs.any (· == x) = false) := Lib.hid (by rw [HA.out]; simp)
      go_wp2_with fail
      go_ret
      exact ⟨_, rfl, Lib.hid (by rw [HH.out]; simp), rfl⟩
set_option maxHeartbeats 400000 in
theorem oc_Contains (v : Value) (xs : List Int) (x : Int) (w : World) (h : Rd w v 1 xs.length (ints xs)) :
    Calls Try.prog 95 #[v, .int .i64 x] w fun e w' => e = .returned (.bool (xs.any (· == x))) ∧ w = w' := by
  obtain ⟨A, c, rfl, -⟩ := id h
  go_enter Try.func95, Try.ntmps95
  go_wp2_with fail
  refine (oc_Index _ xs x _ h).mono ?_
  rintro e w1 ⟨r, rfl, HR, rfl⟩
  go_wp2_with fail
  go_ret
  exact ⟨ret_bool HR.out, rfl⟩
set_option maxHeartbeats 400000 in
theorem oc_is (x : Int) (v : Value) (xs : List Int) (w : World) (h : Rd w v 1 xs.length (ints xs)) :
    Calls Try.prog 85 #[.int .i64 x, v] w fun e w' => e = .returned (.bool (xs.any (· == x))) ∧ w = w' := by
  obtain ⟨A, c, rfl, -⟩ := id h
  go_enter Try.func85, Try.ntmps85
  go_wp2_with fail
  refine (oc_Contains _ xs x _ h).mono ?_
  rintro e w1 ⟨rfl, rfl⟩
  go_wp2_with fail
  go_ret
  exact ⟨rfl, rfl⟩
set_option maxHeartbeats 800000 in
theorem impl_HasFence (i : Ins) (w : World) :
    Calls Try.prog 61 #[(Value.agg #[.int .i64 i.o, .int .i64 i.r, .int .i64 i.s, .int .i64 i.n])] w fun e w' => e = .returned (.bool (fenceB i)) ∧ Below w.heap.size w w' := by
  go_enter Try.func61, Try.ntmps61
  go_wp2_with fail
  refine (ins_op i _).mono ?_
  rintro e w1 ⟨rfl, hb1⟩
  have hB1 := ((Below.refl w.heap.size w).alloc (Nat.le_refl _) (.cells #[.int .i64 i.o, .int .i64 i.r, .int .i64 i.s, .int .i64 i.n] 74)).trans (hb1.mono (by simp))
  go_wp2_with fail
  refine (oc_is i.o _ [4, 5, 7] _ (Rd.newInts w1 [4, 5, 7] _ rfl (by decide))).mono ?_
  rintro e w2 ⟨rfl, rfl⟩
  have hq : fenceB i = ([4, 5, 7] : List Int).any (· == i.o) := by
    simp only [fenceB, List.any_cons, List.any_nil, Bool.or_false, Bool.or_assoc]
    rw [BEq.comm (a := i.o), BEq.comm (a := i.o), BEq.comm (a := i.o)]
  rw [← hq]
  clear hq
  go_wp2_with fail
  go_ret
  exact ⟨rfl, hB1.alloc hB1.size _⟩
def inS (o : Int) : Bool := ([1, 5, 7, 8] : List Int).any (· == o)
def inA (o : Int) : Bool := ([2, 3, 5, 7] : List Int).any (· == o)
def inR (o : Int) : Bool := inB o 0 8 && o != 4
set_option maxHeartbeats 400000 in
theorem oc_usesS (o : Int) (w : World) :
    Calls Try.prog 106 #[.int .i64 o] w fun e w' => e = .returned (.bool (inS o)) ∧ Below w.heap.size w w' := by
  go_enter Try.func106, Try.ntmps106
  go_wp2_with fail
  refine (oc_is o _ [1, 5, 7, 8] _ (Rd.newInts w [1, 5, 7, 8] _ rfl (by decide))).mono ?_
  rintro e w2 ⟨rfl, rfl⟩
  rw [show ([1, 5, 7, 8] : List Int).any (· == o) = inS o from rfl]
  go_wp2_with fail
  go_ret
  exact ⟨rfl, (Below.refl _ _).alloc (Nat.le_refl _) _⟩
set_option maxHeartbeats 400000 in
theorem oc_usesAddress (o : Int) (w : World) :
    Calls Try.prog 109 #[.int .i64 o] w fun e w' => e = .returned (.bool (inA o)) ∧ Below w.heap.size w w' := by
  go_enter Try.func109, Try.ntmps109
  go_wp2_with fail
  refine (oc_is o _ [2, 3, 5, 7] _ (Rd.newInts w [2, 3, 5, 7] _ rfl (by decide))).mono ?_
  rintro e w2 ⟨rfl, rfl⟩
  rw [show ([2, 3, 5, 7] : List Int).any (· == o) = inA o from rfl]
  go_wp2_with fail
  go_ret
  exact ⟨rfl, (Below.refl _ _).alloc (Nat.le_refl _) _⟩
set_option maxHeartbeats 400000 in
theorem oc_known (o : Int) (w : World) :
    Calls Try.prog 102 #[.int .i64 o] w fun e w' => e = .returned (.bool (inB o 0 8)) ∧ w = w' := by
  by_cases h1 : 0 ≤ o
  · go_enter Try.func102, Try.ntmps102
    go_wp2
    go_ret
    exact ⟨ret_bool (by simp [inB, h1]), rfl⟩
  · go_enter Try.func102, Try.ntmps102
    go_wp2
    go_ret
    exact ⟨ret_bool (by simp [inB, h1]; try omega), rfl⟩
set_option maxHeartbeats 400000 in
theorem oc_usesR (o : Int) (w : World) :
    Calls Try.prog 105 #[.int .i64 o] w fun e w' => e = .returned (.bool (inR o)) ∧ w = w' := by
  cases hk : inB o 0 8
  · go_enter Try.func105, Try.ntmps105
    go_wp2_with (go_at_call 102; refine (oc_known _ _).mono ?_; rintro e w' ⟨rfl, rfl⟩)
    go_ret
    exact ⟨ret_bool (by simp [inR, hk]), rfl⟩
  · go_enter Try.func105, Try.ntmps105
    go_wp2_with (go_at_call 102; refine (oc_known _ _).mono ?_; rintro e w' ⟨rfl, rfl⟩)
    go_ret
    exact ⟨ret_bool (by simp [inR, hk]), rfl⟩
set_option maxHeartbeats 400000 in
theorem impl_cellsOk (o : Int) (w : World) :
    Calls Try.prog 79 #[.int .i64 o] w fun e w' => e = .returned (.bool (inB o 1 16)) ∧ w = w' := by
  by_cases h1 : 1 ≤ o
  · go_enter Try.func79, Try.ntmps79
    go_wp2
    go_ret
    exact ⟨ret_bool (by simp [inB, h1]), rfl⟩
  · go_enter Try.func79, Try.ntmps79
    go_wp2
    go_ret
    exact ⟨ret_bool (by simp [inB, h1]; try omega), rfl⟩
def regF (r : Int) (u : Bool) : Bool := if u then inB r 0 3 else r == 0
set_option maxHeartbeats 400000 in
theorem impl_registerOk (r : Int) (u : Bool) (w : World) :
    Calls Try.prog 104 #[.int .i64 r, .bool u] w fun e w' => e = .returned (.bool (regF r u)) ∧ w = w' := by
  cases u
  · go_enter Try.func104, Try.ntmps104
    go_wp2
    go_ret
    exact ⟨rfl, rfl⟩
  · go_enter Try.func104, Try.ntmps104
    go_wp2_with (go_at_call 46; refine (impl_indexOk _ _ _).mono ?_; rintro e w' ⟨rfl, rfl⟩)
    go_ret
    exact ⟨rfl, rfl⟩
def lowF (o : Int) : Int := if o = 0 then -1000 else 0
def highF (o cells size : Int) : Int := if o = 0 then 1000 else if o = 6 then size else if inA o then cells - 1 else 0
set_option maxHeartbeats 800000 in
theorem oc_limitsOfN (o cells size : Int) (w : World) (hc : 1 ≤ cells ∧ cells ≤ 16) :
    Calls Try.prog 103 #[.int .i64 o, .int .i64 cells, .int .i64 size] w fun e w' => e = .returned (.tuple #[.int .i64 (lowF o), .int .i64 (highF o cells size)]) ∧ Below w.heap.size w w' := by
  by_cases h0 : o = 0
  · subst h0
    go_enter Try.func103, Try.ntmps103
    go_wp2_with fail
    exact bodyPost_ret (v := .tuple #[.int .i64 (-1000), .int .i64 1000]) (by simp [results, Try.results103, go_sem]) rfl ⟨rfl, Below.refl _ _⟩
  · have e0 : (o == (0 : Int)) = false := by simp [h0]
    by_cases h6 : o = 6
    · subst h6
      go_enter Try.func103, Try.ntmps103
      go_wp2_with fail
      exact bodyPost_ret (v := .tuple #[.int .i64 0, .int .i64 size]) (by simp [results, Try.results103, go_sem]) rfl ⟨rfl, Below.refl _ _⟩
    · have e6 : (o == (6 : Int)) = false := by simp [h6]
      cases hA : inA o
      · have HF : Hid (lowF o = 0 ∧ highF o cells size = 0) := Lib.hid ⟨by simp [lowF, h0], by simp [highF, h0, h6, hA]⟩
        clear h0 h6
        go_enter Try.func103, Try.ntmps103
        go_wp2_with fail
        refine (oc_usesAddress o _).mono ?_
        rintro e w1 ⟨rfl, hb1⟩
        rw [hA]
        go_wp2_with fail
        exact bodyPost_ret (v := .tuple #[.int .i64 0, .int .i64 0]) (by simp [results, Try.results103, go_sem]) rfl ⟨by rw [HF.out.1, HF.out.2], hb1⟩
      · have HF : Hid (lowF o = 0 ∧ highF o cells size = cells - 1) := Lib.hid ⟨by simp [lowF, h0], by simp [highF, h0, h6, hA]⟩
        clear h0 h6
        go_enter Try.func103, Try.ntmps103
        go_wp2_with fail
        refine (oc_usesAddress o _).mono ?_
        rintro e w1 ⟨rfl, hb1⟩
        rw [hA]
        go_wp2_with fail
        exact bodyPost_ret (v := .tuple #[.int .i64 0, .int .i64 (cells - 1)]) (by simp [results, Try.results103, go_sem]) rfl ⟨by rw [HF.out.1, HF.out.2], hb1⟩
end Go.Proofs.Ytgbgjlmkmlhefaa
