/- Lemmas on memories that laws share, and the laws' bound on the bytes. Plain. -/
import Derived.Test.YtiflooopfpcelabI3
import Derived.Test.YtiflooopfpcelabLaw
namespace Go.Proofs.Ytiflooopfpcelab
set_option maxRecDepth 20000
set_option linter.unusedSimpArgs false
set_option linter.unusedVariables false
open Go.ChangeShapes Go.WideShapes Go.ChangeAt Go.RowKit
set_option linter.unusedVariables false
theorem memOk_set {xs : List Int} {k : Nat} {v : Int} (h : memOk xs = true) (hv : valB v = true) : memOk (xs.set k v) = true := by
  simp only [memOk, Bool.and_eq_true, List.length_set] at h ⊢
  refine ⟨h.1, ?_⟩
  rw [List.all_eq_true] at h ⊢
  intro x hx
  rcases List.mem_or_eq_of_mem_set hx with h1 | h1
  · exact h.2 x h1
  · rw [h1]; exact hv
theorem peek_same {xs : List Int} {k : Nat} {v : Int} (h : memOk (xs.set k v) = true) (hk : k < xs.length) : peekF (xs.set k v) k = v := by
  have h1 : inB (k : Int) 0 (xs.length - 1) = true := by simp [inB]; omega
  simp [peekF, h, h1, hk]
theorem peek_other {xs : List Int} {k i : Nat} {v : Int} (h : memOk (xs.set k v) = true) (hi : i < xs.length) (hne : i ≠ k) : peekF (xs.set k v) i = xs.getD i 0 := by
  have h1 : inB (i : Int) 0 (xs.length - 1) = true := by simp [inB]; omega
  simp [peekF, h, h1, List.getElem?_set_ne (Ne.symm hne)]
set_option maxHeartbeats 400000 in
theorem lawbig (A : Option Addr) (n c : Nat) (w : World) (hnc : n ≤ c) (hc : c ≤ 9223372036854775807) :
    Calls Try.prog 15 #[.slice A n c] w fun e w' => e = .returned (.bool (decide ((1048576 : Int) < n))) ∧ w = w' := by
  go_enter Try.func15, Try.ntmps15
  go_wp2_with fail
  go_ret
  exact ⟨rfl, rfl⟩
end Go.Proofs.Ytiflooopfpcelab
