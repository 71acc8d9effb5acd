/- Contracts of chapter 3's model functions (package spec): a valid buffer, copies, PutSlot, Waits. Condition: the slices can be read. -/
import Derived.Test.YtpenneklpolhgaaDoorTwo
import Derived.Test.YtpenneklpolhgaaDoorS1
namespace Go.Proofs.YtpenneklpolhgaaDoor
set_option maxRecDepth 20000
set_option linter.unusedSimpArgs false
set_option linter.unusedVariables false
open Go.ChangeShapes Go.WideShapes Go.ChangeAt Go.RowKit
set_option linter.unusedVariables false
def slotOk (x : P2) : Bool := inB x.a 0 15 && valB x.b
def bufOk (xs : List P2) : Bool := decide (xs.length ≤ 3) && xs.all slotOk
theorem allP_snoc {α : Type} {p : α → Bool} {xs : List α} {k : Nat} {x : α} (h : (xs.take k).all p = true) (hx : xs[k]? = some x) (hp : p x = true) : (xs.take (k + 1)).all p = true := by
  rw [List.take_add_one, List.all_append, h, hx]
  simp [hp]
theorem allP_not {α : Type} {p : α → Bool} {xs : List α} {k : Nat} {x : α} (hx : xs[k]? = some x) (hp : p x = false) : xs.all p = false := by
  rw [List.all_eq_false]
  exact ⟨x, List.mem_of_getElem? hx, by simp [hp]⟩
theorem bufOk_len {xs : List P2} (h : bufOk xs = true) : xs.length ≤ 3 := by
  simp only [bufOk, Bool.and_eq_true, decide_eq_true_eq] at h
  exact h.1
/-- returns a slice of slots that is a row of its own -/
def RetRow2 (t : TypeId) (L : List P2) (w : World) (e : Ending) (w' : World) : Prop :=
  ∃ v', e = .returned v' ∧ w'.ownsRow w.heap.size t 2 v' L.length (flc2 L) ∧ Below w.heap.size w w'
def RetSlots (L : List P2) (w : World) (e : Ending) (w' : World) : Prop :=
  ∃ v' bs, e = .returned v' ∧ Own w' v' 2 L.length (flc2 L) bs ∧ (∀ b ∈ bs, w.heap.size ≤ b) ∧ Below w.heap.size w w'
def RetSlotsB (L : List P2) (ok : Bool) (w : World) (e : Ending) (w' : World) : Prop :=
  ∃ v' bs, e = .returned (.tuple #[v', .bool ok]) ∧ Own w' v' 2 L.length (flc2 L) bs ∧ (∀ b ∈ bs, w.heap.size ≤ b) ∧ Below w.heap.size w w'
theorem owns_snoc2 {w : World} {base : Nat} {t : TypeId} {v : Value} {N : List P2} {x : P2} (h : w.ownsRow base t 2 v (N.length + 1) (flc2 N ++ [.int .i64 x.a, .int .i64 x.b])) : w.ownsRow base t 2 v (N ++ [x]).length (flc2 (N ++ [x])) := by
  rw [flc2_append, flc2_one]
  simpa [p2C] using h
theorem owns_take2 {w : World} {base : Nat} {t : TypeId} {v : Value} {xs : List P2} {k : Nat} {x : P2} (hx : xs[k]? = some x) (h : w.ownsRow base t 2 v (k + 1) (flc2 (xs.take k) ++ [.int .i64 x.a, .int .i64 x.b])) : w.ownsRow base t 2 v (k + 1) (flc2 (xs.take (k + 1))) := by
  rw [← flc2_snoc hx]
  exact h
def putOk (xs : List P2) (a v : Int) : Bool := bufOk (xs ++ [⟨a, v⟩])
def putF (xs : List P2) (a v : Int) : List P2 := if putOk xs a v then xs ++ [⟨a, v⟩] else xs
theorem putOk_head {xs : List P2} {a v : Int} (h : bufOk xs = false) : putOk xs a v = false := by
  cases hp : putOk xs a v
  · rfl
  · simp only [putOk, bufOk, Bool.and_eq_true, decide_eq_true_eq, List.length_append, List.all_append] at hp
    rw [← h]
    have h1 : xs.length ≤ 3 := by have := hp.1; simp at this; omega
    simp [bufOk, h1, hp.2.1]
theorem putF_len (xs : List P2) (a v : Int) : (putF xs a v).length ≤ xs.length + 1 := by
  unfold putF
  split <;> simp
def waitsF (xs : List P2) (a : Int) : Int := if bufOk xs then ((xs.filter fun x => x.a == a).length : Int) else -1
theorem filter_snoc {xs : List P2} {k : Nat} {x : P2} {a : Int} (h : xs[k]? = some x) : ((xs.take (k + 1)).filter fun x => x.a == a).length = ((xs.take k).filter fun x => x.a == a).length + (if x.a == a then 1 else 0) := by
  rw [List.take_add_one, h, List.filter_append, List.length_append]
  congr 1
  cases hx : x.a == a <;> simp [hx]
end Go.Proofs.YtpenneklpolhgaaDoor
