/- Contracts of chapter 1's model functions (package spec): what each returns, for every memory that can be read and every integer. No condition but that the slice can be read. -/
import Derived.Test.YtkpgjeeofghldaaM1
namespace Go.Proofs.Ytkpgjeeofghldaa
set_option maxRecDepth 20000
set_option linter.unusedSimpArgs false
set_option linter.unusedVariables false
open Go.ChangeShapes Go.WideShapes Go.ChangeAt Go.RowKit
set_option linter.unusedVariables false

def inB (x lo hi : Int) : Bool := decide (lo ≤ x) && decide (x ≤ hi)
theorem inB_true {x lo hi : Int} (h : inB x lo hi = true) : lo ≤ x ∧ x ≤ hi := by simpa [inB] using h
theorem inB_false {x lo hi : Int} (h : inB x lo hi = false) : x < lo ∨ hi < x := by
  simp [inB] at h
  omega
def valB (x : Int) : Bool := inB x (-1000000) 1000000
def memOk (xs : List Int) : Bool := inB xs.length 1 16 && xs.all valB
def newF (n : Int) : List Int := if inB n 1 16 then List.replicate n.toNat 0 else []
def peekF (xs : List Int) (a : Int) : Int := if memOk xs && inB a 0 (xs.length - 1) then xs.getD a.toNat 0 else 0
def pokeOk (xs : List Int) (a v : Int) : Bool := memOk xs && inB a 0 (xs.length - 1) && valB v
def pokeF (xs : List Int) (a v : Int) : List Int := if pokeOk xs a v then xs.set a.toNat v else xs
def sameF (xs ys : List Int) : Bool := memOk xs && memOk ys && decide (xs = ys)
def diffAt (xs ys : List Int) (k : Nat) : List Int := ((List.range k).filter fun i => xs.getD i 0 != ys.getD i 0).map fun i : Nat => (i : Int)
def diffF (xs ys : List Int) : List Int := if memOk xs && memOk ys && decide (xs.length = ys.length) then diffAt xs ys xs.length else []
def clampF (x : Int) : Int := if 1000000 < x then 1000000 else if x < -1000000 then -1000000 else x

/-- returns a slice of its own -/
def RetInts (L : List Int) (w : World) (e : Ending) (w' : World) : Prop :=
  ∃ v' bs, e = .returned v' ∧ Own w' v' 1 L.length (ints L) bs ∧ (∀ b ∈ bs, w.heap.size ≤ b) ∧ Below w.heap.size w w'
def RetMemB (L : List Int) (ok : Bool) (w : World) (e : Ending) (w' : World) : Prop :=
  ∃ v' bs, e = .returned (.tuple #[.agg #[v'], .bool ok]) ∧ Own w' v' 1 L.length (ints L) bs ∧ (∀ b ∈ bs, w.heap.size ≤ b) ∧ Below w.heap.size w w'

set_option maxHeartbeats 400000 in
theorem l01In (x lo hi : Int) (w : World) :
    Calls Try.prog 17 #[.int .i64 x, .int .i64 lo, .int .i64 hi] w fun e w' => e = .returned (.bool (inB x lo hi)) ∧ w = w' := by
  go_enter Try.func17, Try.ntmps17
  go_wp2
  all_goals go_ret
  · rename_i h; exact ⟨ret_bool (by simp [inB, h]), rfl⟩
  · rename_i h; exact ⟨ret_bool (by simp [inB, Int.not_le.2 h]), rfl⟩
theorem diffAt_succ (xs ys : List Int) (k : Nat) : diffAt xs ys (k + 1) = diffAt xs ys k ++ (if xs.getD k 0 != ys.getD k 0 then [(k : Int)] else []) := by
  unfold diffAt
  rw [List.range_succ, List.filter_append, List.map_append]
  by_cases hk : (xs.getD k 0 != ys.getD k 0) = true
  · simp only [List.filter_cons, hk, if_true, List.filter_nil, List.map_cons, List.map_nil]
  · simp only [List.filter_cons, hk, if_false, Bool.false_eq_true, List.filter_nil, List.map_nil]
theorem diffAt_len (xs ys : List Int) (k : Nat) : (diffAt xs ys k).length ≤ k := by
  unfold diffAt
  rw [List.length_map]
  exact Nat.le_trans (List.length_filter_le _ _) (by simp)
end Go.Proofs.Ytkpgjeeofghldaa
