/- Pure: along a script of the reference-counting scheme nothing that waits is idle; the counts of all objects are the links and the holds. Plain lemmas. -/
import Derived.Test.YtiamkgkhamnaeaaNC7
namespace Go.Proofs.Ytiamkgkhamnaeaa
set_option maxRecDepth 20000
set_option linter.unusedSimpArgs false
set_option linter.unusedVariables false
open Go.ChangeShapes Go.WideShapes Go.ChangeAt Go.RowKit
set_option linter.unusedVariables false
def Busy (B : Bn) : Prop := ∀ x ∈ B.w, holdN B x ≠ 0
theorem relBn_w {B : Bn} {x : Int} (h : bnOk B = true) : (relBn B x).h = B.h ∧ (relBn B x).w = if idleB B x then lessF B.w x else B.w := by
  unfold relBn
  split
  · rename_i hi
    have hw : B.w.any (· == x) = true := by unfold idleB at hi; simp only [Bool.and_eq_true] at hi; exact hi.1
    have ht : takeAll B.w [x] = some (lessF B.w x) := by rw [takeAll_one, hw]; rfl
    rw [(free_yes h ht).1]
    exact ⟨rfl, rfl⟩
  · exact ⟨rfl, rfl⟩
theorem busy_rel {B : Bn} {x : Int} (h : bnOk B = true) (hb : ∀ y ∈ B.w, y ≠ x → holdN B y ≠ 0) : Busy (relBn B x) := by
  intro y hy
  obtain ⟨e1, e2⟩ := relBn_w (x := x) h
  have eh : holdN (relBn B x) y = holdN B y := by unfold holdN; rw [e1]
  rw [eh]
  rw [e2] at hy
  split at hy
  · unfold lessF at hy
    obtain ⟨h1, h2⟩ := List.mem_filter.1 hy
    exact hb y h1 (by simpa using h2)
  · rename_i hi
    by_cases e : y = x
    · subst e
      intro h0
      exact hi (by unfold idleB; rw [any_mem.2 hy, h0]; rfl)
    · exact hb y hy e
theorem busy_step {B : Bn} (h : bnOk B = true) (hb : Busy B) (o : O3) : Busy (stepBn B o) := by
  unfold stepBn
  simp only [h, Bool.true_eq_false, if_false]
  split
  · have e1 : (makeBn B).w = B.w ∧ (makeBn B).h = B.h := by unfold makeBn; split <;> exact ⟨rfl, rfl⟩
    intro y hy
    unfold holdN
    rw [e1.2]
    exact hb y (e1.1 ▸ hy)
  split
  · have e1 : (takeBn B o.t o.x).w = B.w := by unfold takeBn; split <;> rfl
    intro y hy
    have := hb y (e1 ▸ hy)
    unfold takeBn
    split
    · unfold holdN at *
      simp only [List.filter_append, List.length_append]
      omega
    · exact this
  split
  · split
    · rename_i hd
      refine busy_rel (drop_ok h) (fun y hy hne => ?_)
      have e1 : (dropBn B o.t o.x).w = B.w := by unfold dropBn; split <;> rfl
      have h1 := hb y (e1 ▸ hy)
      unfold dropBn
      rw [if_pos hd]
      unfold dropOk at hd
      simp only [Bool.and_eq_true, decide_eq_true_eq] at hd
      have := dropF_cnt (bnOk_iff.1 h).2.2.2.2 hd.2 y
      rw [if_neg hne] at this
      unfold holdN at *
      dsimp only
      omega
    · exact hb
  split
  · split
    · rename_i hc
      refine busy_rel (cut_ok h) (fun y hy hne => ?_)
      unfold cutBn at hy ⊢
      rw [if_pos hc] at hy ⊢
      have hy' : y ∈ B.w := by
        rcases List.mem_append.1 hy with hy | hy
        · exact hy
        · exact absurd (List.mem_singleton.1 hy) hne
      exact hb y hy'
    · exact hb
  · exact hb
theorem busy_pl (ops : List O3) (k : Nat) : Busy (pl (ops.take k)).1 := by
  induction k with
  | zero => intro x hx; simp [pl, bn0] at hx
  | succ k ih =>
    cases h : ops[k]? with
    | none =>
      have hl : ops.length ≤ k := List.getElem?_eq_none_iff.1 h
      rw [List.take_of_length_le (by omega)] at ih ⊢
      exact ih
    | some o => rw [pl_snoc h]; exact busy_step (pl_ok ops k).1 ih o
theorem zero_none {B : Bn} (hb : Busy B) : zeroF B = [] := by
  unfold zeroF
  split
  · rw [List.filter_eq_nil_iff]
    intro x hx
    have := hb x hx
    simp only [beq_iff_eq]
    unfold cntR
    omega
  · rfl
theorem zero_play {ops : List O3} (h : ops.length ≤ 300) : zeroF (playB ops) = [] := by
  have := busy_pl ops ops.length
  rw [List.take_length] at this
  unfold playB
  rw [if_neg (by omega)]
  exact zero_none this
def sumTo (B : Bn) : Nat → Int
  | 0 => 0
  | m + 1 => sumTo B m + cntR B ((m : Int) + 1)
theorem filter_upto (L : List Int) (m : Nat) : (L.filter fun y => decide (1 ≤ y) && decide (y ≤ ((m + 1 : Nat) : Int))).length = (L.filter fun y => decide (1 ≤ y) && decide (y ≤ (m : Int))).length + (L.filter fun y => y == (m : Int) + 1).length := by
  induction L with
  | nil => rfl
  | cons a L ih =>
    simp only [List.filter_cons]
    by_cases h1 : a = (m : Int) + 1
    · subst h1
      rw [if_pos (by simp; omega), if_neg (by simp; omega), if_pos (by simp)]
      simp only [List.length_cons]
      omega
    · by_cases h2 : 1 ≤ a ∧ a ≤ (m : Int)
      · rw [if_pos (by simp; omega), if_pos (by simp; omega), if_neg (by simp; omega)]
        simp only [List.length_cons]
        omega
      · rw [if_neg (by simp; omega), if_neg (by simp; omega), if_neg (by simp; omega)]
        exact ih
theorem sumTo_eq (B : Bn) (m : Nat) : sumTo B m = ((B.l.filter fun y => decide (1 ≤ y) && decide (y ≤ (m : Int))).length : Int) + ((B.h.map (·.b)).filter fun y => decide (1 ≤ y) && decide (y ≤ (m : Int))).length := by
  induction m with
  | zero =>
    have e : ∀ L : List Int, (L.filter fun y => decide (1 ≤ y) && decide (y ≤ ((0 : Nat) : Int))) = [] := fun L => by
      rw [List.filter_eq_nil_iff]
      intro a _
      simp
      omega
    rw [e, e]
    rfl
  | succ m ih =>
    rw [filter_upto, filter_upto, sumTo, ih]
    have e : ((B.h.map (·.b)).filter fun y => y == (m : Int) + 1).length = holdN B ((m : Int) + 1) := by
      unfold holdN
      rw [List.filter_map, List.length_map]
      rfl
    rw [e]
    unfold cntR linkN
    omega
theorem sum_all {B : Bn} (h : bnOk B = true) : sumTo B (B.n - 1).toNat = (B.l.length : Int) + B.h.length := by
  have ho := bnOk_iff.1 h
  rw [sumTo_eq, List.filter_eq_self.2, List.filter_eq_self.2, List.length_map]
  · intro y hy
    obtain ⟨e, he, rfl⟩ := List.mem_map.1 hy
    have := ho.2.2.2.1 e he
    simp
    omega
  · intro y hy
    have := ho.2.1.2.2 y (by unfold allBn; simp [hy])
    simp
    omega
theorem sumTo_le {B : Bn} (h : bnOk B = true) : ∀ m : Nat, 0 ≤ sumTo B m ∧ sumTo B m ≤ 301 * m
  | 0 => ⟨Int.le_refl _, by simp [sumTo]⟩
  | m + 1 => by
    have h1 := sumTo_le h m
    have h2 := cnt_le h ((m : Int) + 1)
    unfold sumTo
    omega
end Go.Proofs.Ytiamkgkhamnaeaa
