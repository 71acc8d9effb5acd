/- Contract of spec.AddressesOf: the distinct addresses of a code, ascending. Condition: the code can be read. -/
import Derived.Test.YtgbgjlmkmlhefaaGreatDoorI5
import Derived.Test.YtgbgjlmkmlhefaaGreatDoorM3b
namespace Go.Proofs.YtgbgjlmkmlhefaaGreatDoor
set_option maxRecDepth 20000
set_option linter.unusedSimpArgs false
set_option linter.unusedVariables false
open Go.ChangeShapes Go.WideShapes Go.ChangeAt Go.RowKit
set_option linter.unusedVariables false
theorem owns_mono {w : World} {base base' : Nat} {e : TypeId} {size : Nat} {v : Value} {n : Nat} {xs : List Value} (h : w.ownsRow base e size v n xs) (hb : base' ≤ base) : w.ownsRow base' e size v n xs := by
  obtain ⟨hl, h0 | ⟨g, cap, cur, h1, h2, h3⟩⟩ := h
  · exact ⟨hl, .inl h0⟩
  · exact ⟨hl, .inr ⟨g, cap, cur, h1, by omega, h3⟩⟩
theorem owns_newInts (w : World) (t : TypeId) : (w.alloc (.cells #[] t)).ownsRow w.heap.size t 1 (.slice (some ⟨w.heap.size, 0, none⟩) 0 0) 0 [] :=
  ⟨rfl, .inr ⟨w.heap.size, 0, #[], rfl, Nat.le_refl _, heap_alloc_new w _, Nat.le_refl _, by simp [maxLen], rfl, rfl⟩⟩
theorem owns_slice {w : World} {base : Nat} {e : TypeId} {size : Nat} {v : Value} {n : Nat} {xs : List Value} (h : w.ownsRow base e size v n xs) : ∃ A c, v = .slice A n c ∧ n ≤ c ∧ c ≤ 9223372036854775807 := by
  obtain ⟨bs, h1, -⟩ := Own.of_owns h
  exact h1.slice
theorem owns_snoc {w : World} {base : Nat} {t : TypeId} {v : Value} {N : List Int} {x : Int} (h : w.ownsRow base t 1 v (N.length + 1) (ints N ++ [.int .i64 x])) : w.ownsRow base t 1 v (N ++ [x]).length (ints (N ++ [x])) := by
  simpa [ints] using h
/-- the list with x in its place -/
def putA (x : Int) : List Int → List Int
  | [] => [x]
  | y :: ys => if x < y then x :: y :: ys else if x = y then y :: ys else y :: putA x ys
def addrAt (xs : List Ins) : List Int := xs.foldl (fun a i => if inA i.o then putA i.n a else a) []
def addrF (xs : List Ins) : List Int := if xs.length ≤ 16 then addrAt xs else []
theorem putA_len (x : Int) : ∀ l : List Int, (putA x l).length ≤ l.length + 1
  | [] => by simp [putA]
  | y :: ys => by
    unfold putA
    have := putA_len x ys
    split
    · simp
    · split <;> simp <;> omega
theorem addrAt_snoc {xs : List Ins} {k : Nat} {x : Ins} (h : xs[k]? = some x) : addrAt (xs.take (k + 1)) = if inA x.o then putA x.n (addrAt (xs.take k)) else addrAt (xs.take k) := by
  unfold addrAt
  rw [List.take_add_one, h]
  simp [List.foldl_append]
/-- the inner loop's invariant: what next holds, m addresses of L taken over -/
def PutAt (x : Int) (L : List Int) (m : Nat) (put : Bool) (N : List Int) : Prop :=
  if put then N ++ L.drop m = putA x L else N = L.take m ∧ L.take m ++ putA x (L.drop m) = putA x L
theorem PutAt.zero (x : Int) (L : List Int) : PutAt x L 0 false [] := by simp [PutAt]
theorem drop_of {α : Type} {L : List α} {m : Nat} {y : α} (h : L[m]? = some y) : L.drop m = y :: L.drop (m + 1) := by
  obtain ⟨h1, h2⟩ := List.getElem?_eq_some_iff.1 h
  rw [List.drop_eq_getElem_cons h1, h2]
theorem take_of {α : Type} {L : List α} {m : Nat} {y : α} (h : L[m]? = some y) : L.take (m + 1) = L.take m ++ [y] := by
  rw [List.take_add_one, h]
  rfl
theorem PutAt.next {x y : Int} {L N : List Int} {m : Nat} (h : PutAt x L m true N) (hy : L[m]? = some y) : PutAt x L (m + 1) true (N ++ [y]) := by
  simp only [PutAt, if_true] at h ⊢
  rw [drop_of hy] at h
  simpa using h
theorem PutAt.lt {x y : Int} {L N : List Int} {m : Nat} (h : PutAt x L m false N) (hy : L[m]? = some y) (hx : x < y) : PutAt x L (m + 1) true (N ++ [x] ++ [y]) := by
  have h2 : N = L.take m ∧ L.take m ++ putA x (L.drop m) = putA x L := by simpa [PutAt] using h
  clear h
  obtain ⟨rfl, h⟩ := h2
  rw [drop_of hy] at h
  simp only [putA, hx, if_true] at h
  simp only [PutAt, if_true]
  rw [← h]
  simp
theorem PutAt.eq {x y : Int} {L N : List Int} {m : Nat} (h : PutAt x L m false N) (hy : L[m]? = some y) (hx : x = y) : PutAt x L (m + 1) true (N ++ [y]) := by
  have h2 : N = L.take m ∧ L.take m ++ putA x (L.drop m) = putA x L := by simpa [PutAt] using h
  clear h
  obtain ⟨rfl, h⟩ := h2
  rw [drop_of hy] at h
  subst hx
  simp [putA] at h
  simp only [PutAt, if_true]
  rw [← h]
  simp
theorem PutAt.gt {x y : Int} {L N : List Int} {m : Nat} (h : PutAt x L m false N) (hy : L[m]? = some y) (hx : y < x) : PutAt x L (m + 1) false (N ++ [y]) := by
  have h2 : N = L.take m ∧ L.take m ++ putA x (L.drop m) = putA x L := by simpa [PutAt] using h
  clear h
  obtain ⟨rfl, h⟩ := h2
  rw [drop_of hy] at h
  simp only [putA, if_neg (show ¬ x < y by omega), if_neg (show ¬ x = y by omega)] at h
  simp only [PutAt, Bool.false_eq_true, if_false]
  rw [take_of hy]
  exact ⟨rfl, by rw [← h]; simp⟩
theorem PutAt.last {x : Int} {L N : List Int} (h : PutAt x L L.length true N) : N = putA x L := by simpa [PutAt] using h
theorem PutAt.end_ {x : Int} {L N : List Int} (h : PutAt x L L.length false N) : N ++ [x] = putA x L := by
  have h2 : N = L.take L.length ∧ L.take L.length ++ putA x (L.drop L.length) = putA x L := by simpa only [PutAt, Bool.false_eq_true, if_false] using h
  clear h
  obtain ⟨rfl, h⟩ := h2
  simpa [putA] using h
end Go.Proofs.YtgbgjlmkmlhefaaGreatDoor
