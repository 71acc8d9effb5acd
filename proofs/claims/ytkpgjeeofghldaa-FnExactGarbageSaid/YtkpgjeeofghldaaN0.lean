/- Words that chapter 9's texts share: marks of a row of pairs, a model function that looks a number up in a row. Condition: the row can be read. -/
import Derived.Test.YtkpgjeeofghldaaS1
import Derived.Test.YtkpgjeeofghldaaTwo
import Derived.Test.YtkpgjeeofghldaaM1
namespace Go.Proofs.Ytkpgjeeofghldaa
set_option maxRecDepth 20000
set_option linter.unusedSimpArgs false
set_option linter.unusedVariables false
open Go.ChangeShapes Go.WideShapes Go.ChangeAt Go.RowKit
set_option linter.unusedVariables false
def mk2 (n : Nat) (m : Int) : List P2 := (List.range n).map fun j : Nat => ⟨m + (j * 2 : Nat), m + (j * 2 + 1 : Nat)⟩
theorem mk2_len (n : Nat) (m : Int) : (mk2 n m).length = n := by simp [mk2]
theorem fl2_mk2 (n : Nat) (m : Int) : fl2 (mk2 n m) = marked (n * 2) m := by
  induction n with
  | zero => rfl
  | succ n ih =>
    have h1 : mk2 (n + 1) m = mk2 n m ++ [⟨m + (n * 2 : Nat), m + (n * 2 + 1 : Nat)⟩] := by simp only [mk2, List.range_succ, List.map_append, List.map_cons, List.map_nil]
    have h2 : marked ((n + 1) * 2) m = marked (n * 2) m ++ [m + (n * 2 : Nat), m + (n * 2 + 1 : Nat)] := by
      rw [show (n + 1) * 2 = n * 2 + 1 + 1 from by omega]
      simp only [marked, List.range_succ, List.map_append, List.map_cons, List.map_nil, List.append_assoc, List.cons_append, List.nil_append]
    rw [h1, h2, fl2_append, ih]
    rfl
theorem flc2_mk2 (n : Nat) (m : Int) : flc2 (mk2 n m) = ints (marked (n * 2) m) := by unfold flc2; rw [fl2_mk2]
theorem drop_of' {α : Type} {xs : List α} {k : Nat} {x : α} (h : xs[k]? = some x) : xs.drop k = x :: xs.drop (k + 1) := by
  obtain ⟨hk, rfl⟩ := List.getElem?_eq_some_iff.1 h
  exact List.drop_eq_getElem_cons hk
set_option maxHeartbeats 400000 in
theorem l01Has (v : Value) (xs : List Int) (x : Int) (w : World) (h : Rd w v 1 xs.length (ints xs)) :
    Calls Try.prog 18 #[v, .int .i64 x] w fun e w' => e = .returned (.bool (xs.any (· == x))) ∧ w = w' := by
  obtain ⟨A, c, rfl, -, hnc, hc, hr⟩ := h
  unfold maxLen at hc
  go_enter Try.func18, Try.ntmps18
  go_wp2
  go_loop [5] (fun i => ∃ k : Nat, k ≤ xs.length ∧ i = .int .i64 k ∧ Hid (xs.any (· == x) = (xs.drop k).any (· == x))) (fun i => xs.length - (intOf i).toNat)
  case atStart => exact ⟨0, Nat.zero_le _, rfl, Lib.hid rfl⟩
  case round =>
    obtain ⟨k, hk, rfl, HA⟩ := hrel
    by_cases hlt : k < xs.length
    · obtain ⟨b, o, rfl, hb, hcell⟩ := hr (by omega)
      obtain ⟨y, hyk, hy⟩ := int_at hcell hlt
      have hdr := drop_of' hyk.out
      clear hcell hr
      by_cases he : y = x
      · subst he
        have HH : Hid (xs.any (· == y) = true) := Lib.hid (by rw [HA.out, hdr]; simp)
        have hq : (y == y) = true := by simp
        clear hdr
        go_wp2_with fail
        go_ret
        exact ⟨ret_bool HH.out.symm, rfl⟩
      · have HH : Hid (xs.any (· == x) = (xs.drop (k + 1)).any (· == x)) := Lib.hid (by rw [HA.out, hdr]; simp [he])
        have hq : (y == x) = false := by simp [he]
        clear hdr
        go_wp2_with fail
        exact ⟨⟨k + 1, by omega, by go_num, HH⟩, by simp [intOf]; omega⟩
    · obtain rfl : k = xs.length := by omega
      have HH : Hid (xs.any (· == x) = false) := Lib.hid (by rw [HA.out]; simp)
      go_wp2_with fail
      go_ret
      exact ⟨ret_bool HH.out.symm, rfl⟩
end Go.Proofs.Ytkpgjeeofghldaa
