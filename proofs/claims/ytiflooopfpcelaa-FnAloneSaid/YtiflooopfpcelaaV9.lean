/- RunMoves as a plain function: the moves that can be done, one after another, from the start. Pure. -/
import Derived.Test.YtiflooopfpcelaaK4
import Derived.Test.YtiflooopfpcelaaC9
namespace Go.Proofs.Ytiflooopfpcelaa
set_option maxRecDepth 20000
set_option linter.unusedSimpArgs false
set_option linter.unusedVariables false
open Go.RowKit
def rmS (p : Pr) (s : Ma × Int) (m : Mv) : Ma × Int := if canMv p s.1 m then (doAt p s.1 m, s.2 + 1) else s
def rmAt (p : Pr) (ms : List Mv) : Ma × Int := ms.foldl (rmS p) (startF p, 0)
def rmB (p : Pr) (ms : List Mv) : Bool := progOkF p && decide (ms.length ≤ 300)
def rmM (p : Pr) (ms : List Mv) : Ma := if rmB p ms then (rmAt p ms).1 else ⟨[], []⟩
def rmN (p : Pr) (ms : List Mv) : Int := if rmB p ms then (rmAt p ms).2 else 0
theorem rmAt_take {p : Pr} {ms : List Mv} {k : Nat} {m : Mv} (h : ms[k]? = some m) : rmAt p (ms.take (k + 1)) = rmS p (rmAt p (ms.take k)) m := by
  unfold rmAt
  rw [List.take_add_one, h]
  simp
theorem startF_ok {p : Pr} (h : progOkF p = true) : machOk p (startF p) = true := by
  have h1 := progOk_len h
  obtain ⟨h2, h3⟩ := newF_ok h
  unfold startF
  rw [if_pos h]
  have hm : memOk (newF p.c) = true := by
    rw [h2]
    simp only [memOk, Bool.and_eq_true, List.length_replicate]
    refine ⟨inB_of (by omega), ?_⟩
    rw [List.all_eq_true]
    intro x hx
    rw [List.eq_of_mem_replicate hx]
    rfl
  have ht : ((List.replicate p.x.length z4).zip p.x).all (thQ p.c) = true := by
    rw [List.all_eq_true]
    rintro ⟨u, code⟩ hq
    obtain ⟨j, hj⟩ := List.mem_iff_getElem?.1 hq
    rw [List.getElem?_zip_eq_some] at hj
    obtain rfl : u = z4 := List.eq_of_mem_replicate (List.mem_of_getElem? hj.1)
    exact thOk_of (by show (0 : Int) ≤ 0 ∧ (0 : Int) ≤ code.length; omega) rfl rfl rfl rfl
  have hl : ((newF p.c).length : Int) = p.c := by rw [h2, List.length_replicate]; omega
  simp only [machOk, h, hm, ht, hl, List.length_replicate]
  simp
theorem rmS_ok {p : Pr} {s : Ma × Int} {m : Mv} (h : machOk p s.1 = true) : machOk p (rmS p s m).1 = true := by
  unfold rmS
  split
  · rename_i hc
    exact doAt_ok hc
  · exact h
theorem foldl_ok {p : Pr} : ∀ (ms : List Mv) {s : Ma × Int}, machOk p s.1 = true → machOk p (ms.foldl (rmS p) s).1 = true
  | [], _, h => h
  | m :: ms, s, h => foldl_ok ms (rmS_ok h)
theorem rmAt_ok {p : Pr} (ms : List Mv) (h : progOkF p = true) : machOk p (rmAt p ms).1 = true := foldl_ok ms (startF_ok h)
theorem foldl_num {p : Pr} : ∀ (ms : List Mv) (s : Ma × Int), s.2 ≤ (ms.foldl (rmS p) s).2 ∧ (ms.foldl (rmS p) s).2 ≤ s.2 + ms.length
  | [], s => by simp
  | m :: ms, s => by
    have h1 := foldl_num (p := p) ms (rmS p s m)
    have h2 : s.2 ≤ (rmS p s m).2 ∧ (rmS p s m).2 ≤ s.2 + 1 := by
      unfold rmS
      split
      · exact ⟨by show s.2 ≤ s.2 + 1; omega, Int.le_refl _⟩
      · omega
    simp only [List.foldl_cons, List.length_cons]
    omega
theorem rmAt_num (p : Pr) (ms : List Mv) : 0 ≤ (rmAt p ms).2 ∧ (rmAt p ms).2 ≤ ms.length := by
  have := foldl_num (p := p) ms (startF p, 0)
  unfold rmAt
  simp only at this
  omega
/-- one move of a machine that is well: DoMove's answer -/
theorem rmS_do {p : Pr} {s : Ma × Int} {m : Mv} : rmS p s m = (doF p s.1 m, if canMv p s.1 m then s.2 + 1 else s.2) := by
  unfold rmS doF
  split <;> rfl
theorem rmM_tot (p : Pr) (ms : List Mv) : totMa (rmM p ms) ≤ 40 := by
  unfold rmM
  split
  · rename_i h
    unfold rmB at h
    simp only [Bool.and_eq_true] at h
    exact machOk_tot (rmAt_ok ms h.1)
  · simp [totMa, totTS]
theorem rmN_num (p : Pr) (ms : List Mv) : 0 ≤ rmN p ms ∧ rmN p ms ≤ 300 := by
  unfold rmN
  split
  · rename_i h
    unfold rmB at h
    simp only [Bool.and_eq_true, decide_eq_true_eq] at h
    have := rmAt_num p ms
    omega
  · omega
end Go.Proofs.Ytiflooopfpcelaa
