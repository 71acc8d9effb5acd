/- Contracts of chapter 1's model functions (package spec): what each returns, for every memory that can be read and every integer. No condition but that the slice can be read. -/
import Derived.Test.YtiamkgkhamnaeaaM1
namespace Go.Proofs.Ytiamkgkhamnaeaa
set_option maxRecDepth 20000
set_option linter.unusedSimpArgs false
set_option linter.unusedVariables false
open Go.ChangeShapes Go.WideShapes Go.ChangeAt Go.RowKit
set_option linter.unusedVariables false

def inB (x lo hi : Int) : Bool := decide (lo ≤ x) && decide (x ≤ hi)
theorem inB_true {x lo hi : Int} (h : inB x lo hi = true) : lo ≤ x ∧ x ≤ hi := by simpa [inB] using h
theorem inB_false {x lo hi : Int} (h : inB x lo hi = false) : x < lo ∨ hi < x := by
  simp [inB] at h
  omega
def valB (x : Int) : Bool := inB x (-1000000) 1000000
def memOk (xs : List Int) : Bool := inB xs.length 1 16 && xs.all valB
def newF (n : Int) : List Int := if inB n 1 16 then List.replicate n.toNat 0 else []
def peekF (xs : List Int) (a : Int) : Int := if memOk xs && inB a 0 (xs.length - 1) then xs.getD a.toNat 0 else 0
def pokeOk (xs : List Int) (a v : Int) : Bool := memOk xs && inB a 0 (xs.length - 1) && valB v
def pokeF (xs : List Int) (a v : Int) : List Int := if pokeOk xs a v then xs.set a.toNat v else xs
def sameF (xs ys : List Int) : Bool := memOk xs && memOk ys && decide (xs = ys)
def diffAt (xs ys : List Int) (k : Nat) : List Int := ((List.range k).filter fun i => xs.getD i 0 != ys.getD i 0).map fun i : Nat => (i : Int)
def diffF (xs ys : List Int) : List Int := if memOk xs && memOk ys && decide (xs.length = ys.length) then diffAt xs ys xs.length else []
def clampF (x : Int) : Int := if 1000000 < x then 1000000 else if x < -1000000 then -1000000 else x

/-- returns a slice of its own -/
def RetInts (L : List Int) (w : World) (e : Ending) (w' : World) : Prop :=
  ∃ v' bs, e = .returned v' ∧ Own w' v' 1 L.length (ints L) bs ∧ (∀ b ∈ bs, w.heap.size ≤ b) ∧ Below w.heap.size w w'
def RetMemB (L : List Int) (ok : Bool) (w : World) (e : Ending) (w' : World) : Prop :=
  ∃ v' bs, e = .returned (.tuple #[.agg #[v'], .bool ok]) ∧ Own w' v' 1 L.length (ints L) bs ∧ (∀ b ∈ bs, w.heap.size ≤ b) ∧ Below w.heap.size w w'

set_option maxHeartbeats 400000 in
theorem l01In (x lo hi : Int) (w : World) :
    Calls Try.prog 66 #[.int .i64 x, .int .i64 lo, .int .i64 hi] w fun e w' => e = .returned (.bool (inB x lo hi)) ∧ w = w' := by
  go_enter Try.func66, Try.ntmps66
  go_wp2
  all_goals go_ret
  · rename_i h; exact ⟨ret_bool (by simp [inB, h]), rfl⟩
  · rename_i h; exact ⟨ret_bool (by simp [inB, Int.not_le.2 h]), rfl⟩
set_option maxHeartbeats 400000 in
theorem l01Copy (v : Value) (xs : List Int) (w : World) (h : Rd w v 1 xs.length (ints xs)) (hsz : xs.length ≤ 16777216) :
    Calls Try.prog 90 #[v] w (RetInts xs w) := by
  obtain ⟨A, c, rfl, -, hnc, hc, hr⟩ := h
  unfold maxLen at hc
  obtain ⟨i, hi, hiz0, hiz1, hiz2⟩ := info_parts infoInt
  go_enter Try.func90, Try.ntmps90
  go_wp2_with fail
  go_loopw [3, 4] (fun v i wr => ∃ k : Nat, k ≤ xs.length ∧ i = .int .i64 k ∧ wr.ownsRow w.heap.size 3 1 v k (ints (xs.take k)) ∧ Below w.heap.size w wr) (fun _ i _ => xs.length - (intOf i).toNat)
  case atStart => exact ⟨0, Nat.zero_le _, rfl, World.ownsRow_lit w #[] 0 (Nat.le_refl _) (by simp [maxLen]) rfl, (Below.refl _ _).alloc (Nat.le_refl _) _⟩
  case round =>
    obtain ⟨k, hk, rfl, hO, hB⟩ := hrel
    by_cases hlt : k < xs.length
    · obtain ⟨b, o, rfl, hb, hcell⟩ := hr (by omega)
      have hcell' : ∀ j u, (ints xs)[j]? = some u → wr.cell? ⟨b, o + j, none⟩ = some u := fun j u hu => (hB.cell (p := ⟨b, o + j, none⟩) hb).trans (hcell j u hu)
      obtain ⟨x, hxk, hx⟩ := int_at hcell' hlt
      clear hcell hcell' hr
      have hbw : b < wr.heap.size := Nat.lt_of_lt_of_le hb hB.size
      go_wp2_with ((at_builtin; refine wpList_append_own _ rfl _ _ 22 rfl (w.heap.size) 3 i (.int .i64 0) 1 8 Try.underlying22 hi hiz0 hiz1 hiz2 rfl (by decide) _ _ _ rfl (hO.alloc _) ⟨wr.heap.size, 0, none⟩ 1 1 [.int .i64 x] rfl rfl ?c1 ?c2 ?c3 ?c4 ?c5 ?_))
      case c1 => exact new_cells _ _ _
      case c2 => simp [Value.oneCell']
      case c3 => unfold maxLen; omega
      case c4 => omega
      case c5 => have := hB.size; simp; omega
      intro v' w1 hown' hgrow _
      have hB' := (hB.alloc hB.size _).grown hgrow (by have := hB.size; simp; omega) (fun k hk => by have := (hO.lt k hk).1; omega)
      rw [ints_snoc hxk.out] at hown'
      clear hgrow
      go_wp2_with fail
      exact ⟨⟨k + 1, by omega, by go_num, hown', hB'⟩, by simp [intOf]; omega⟩
    · go_wp2_with fail
      go_ret
      obtain rfl : k = xs.length := by omega
      rw [List.take_length] at hO
      obtain ⟨bs, h1, h2⟩ := Own.of_owns hO
      exact ⟨_, bs, rfl, h1, h2, hB⟩
theorem diffAt_succ (xs ys : List Int) (k : Nat) : diffAt xs ys (k + 1) = diffAt xs ys k ++ (if xs.getD k 0 != ys.getD k 0 then [(k : Int)] else []) := by
  unfold diffAt
  rw [List.range_succ, List.filter_append, List.map_append]
  by_cases hk : (xs.getD k 0 != ys.getD k 0) = true
  · simp only [List.filter_cons, hk, if_true, List.filter_nil, List.map_cons, List.map_nil]
  · simp only [List.filter_cons, hk, if_false, Bool.false_eq_true, List.filter_nil, List.map_nil]
theorem diffAt_len (xs ys : List Int) (k : Nat) : (diffAt xs ys k).length ≤ k := by
  unfold diffAt
  rw [List.length_map]
  exact Nat.le_trans (List.length_filter_le _ _) (by simp)
end Go.Proofs.Ytiamkgkhamnaeaa
