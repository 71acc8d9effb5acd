/- Contracts of the laws' own helpers over []int: size, copy, equality, marks and their look-up. Conditions: lengths below 2^63, as every slice has. -/
import Derived.Test.YtgbgjlmkmlhefaaGreatDoorRows
import Derived.Test.YtgbgjlmkmlhefaaGreatDoorBase
namespace Go.Proofs.YtgbgjlmkmlhefaaGreatDoor
set_option maxRecDepth 20000
set_option linter.unusedSimpArgs false
set_option linter.unusedVariables false
open Go.ChangeShapes Go.WideShapes Go.ChangeAt Go.RowKit
set_option linter.unusedVariables false

theorem infoInt : (Tryz.prog.info? 3).map (fun i => (i.zero, i.size, i.bytes)) = some (some (.int .i64 0), 1, 8) := by kernel_rfl

def szF (n : Nat) (left : Int) : Int := if left - n < 0 then -1 else left - n
def part (xs : List Int) (k : Nat) : List Value := ints (xs.take k) ++ List.replicate (xs.length - k) (.int .i64 0)
theorem part_zero (xs : List Int) : List.replicate xs.length (Value.int .i64 0) = part xs 0 := by simp [part, ints]
theorem part_all (xs : List Int) : part xs xs.length = ints xs := by simp [part]
theorem part_at {xs : List Int} {k : Nat} (h : k < xs.length) : (part xs k)[k]? = some (.int .i64 0) := by
  have hl : (ints (xs.take k)).length = k := by simp [ints]; omega
  unfold part
  rw [List.getElem?_append_right (by omega), hl, Nat.sub_self, List.getElem?_replicate, if_pos (by omega)]
theorem part_set {xs : List Int} {k : Nat} {x : Int} (h : xs[k]? = some x) : (part xs k).set k (.int .i64 x) = part xs (k + 1) := by
  obtain ⟨hk, hx⟩ := List.getElem?_eq_some_iff.1 h
  have hl : (ints (xs.take k)).length = k := by simp [ints]; omega
  unfold part
  rw [List.set_append, if_neg (by omega), hl, Nat.sub_self, show xs.length - k = (xs.length - (k + 1)) + 1 from by omega, List.replicate_succ, List.set_cons_zero,
    List.take_add_one, h]
  simp [ints]
def marked (n : Nat) (m : Int) : List Int := (List.range n).map fun j : Nat => m + j
theorem marked_len (n : Nat) (m : Int) : (marked n m).length = n := by simp [marked]
def markPart (xs : List Int) (m : Int) (k : Nat) : List Value := ints (marked k m) ++ ints (xs.drop k)
theorem markPart_at {xs : List Int} {m : Int} {k : Nat} (h : k < xs.length) : (markPart xs m k)[k]? = some (.int .i64 (xs.getD k 0)) := by
  have hl : (ints (marked k m)).length = k := by simp [ints, marked]
  unfold markPart
  rw [List.getElem?_append_right (by omega), hl, Nat.sub_self]
  simp [ints, h]
theorem markPart_next {xs : List Int} {m : Int} {k : Nat} (h : k < xs.length) (j : Nat) (hj : k + j < xs.length) : (markPart xs m k)[k + j]? = some (.int .i64 (xs.getD (k + j) 0)) := by
  have hl : (ints (marked k m)).length = k := by simp [ints, marked]
  unfold markPart
  rw [List.getElem?_append_right (by omega), hl]
  simp [ints, hj]
theorem markPart_set {xs : List Int} {m : Int} {k : Nat} (h : k < xs.length) : (markPart xs m k).set k (.int .i64 (m + k)) = markPart xs m (k + 1) := by
  have hl : (ints (marked k m)).length = k := by simp [ints, marked]
  unfold markPart
  have hd : ints (xs.drop k) = .int .i64 xs[k] :: ints (xs.drop (k + 1)) := by simp only [ints, List.drop_eq_getElem_cons h, List.map_cons]
  have hm : ints (marked (k + 1) m) = ints (marked k m) ++ [.int .i64 (m + k)] := by simp only [ints, marked, List.range_succ, List.map_append, List.map_cons, List.map_nil]
  rw [List.set_append, if_neg (by omega), hl, Nat.sub_self, hd, List.set_cons_zero, hm, List.append_assoc, List.singleton_append]
theorem markPart_set4 {xs : List Int} {m : Int} {k : Nat} (h : k * 4 + 3 < xs.length) : ((((markPart xs m (k * 4)).set (k * 4) (.int .i64 (m + k * 4))).set (k * 4 + 1) (.int .i64 (m + k * 4 + 1))).set (k * 4 + 2) (.int .i64 (m + k * 4 + 1 + 1))).set (k * 4 + 3) (.int .i64 (m + k * 4 + 1 + 1 + 1)) = markPart xs m ((k + 1) * 4) := by
  rw [show m + (k : Int) * 4 + 1 + 1 + 1 = m + ((k * 4 + 3 : Nat) : Int) from by omega, show m + (k : Int) * 4 + 1 + 1 = m + ((k * 4 + 2 : Nat) : Int) from by omega,
    show m + (k : Int) * 4 + 1 = m + ((k * 4 + 1 : Nat) : Int) from by omega, show m + (k : Int) * 4 = m + ((k * 4 : Nat) : Int) from by omega,
    markPart_set (by omega), markPart_set (by omega), markPart_set (by omega), markPart_set (by omega), show (k + 1) * 4 = k * 4 + 3 + 1 from by omega]
theorem marked_at {n k : Nat} {m : Int} (h : k < n) : (ints (marked n m))[k]? = some (.int .i64 (m + k)) := by
  simp [ints, marked, h]
end Go.Proofs.YtgbgjlmkmlhefaaGreatDoor
