/- Contract of spec.ParseCode: the code that a text is. Condition: the text's length is a string's. -/
import Derived.Test.YtmickgldnfkiiaaDoorQ2
import Derived.Test.YtmickgldnfkiiaaDoorS2e
import Derived.Deep.DeepCutAuto
namespace Go.Proofs.YtmickgldnfkiiaaDoor
set_option maxRecDepth 20000
set_option linter.unusedSimpArgs false
set_option linter.unusedVariables false
open Go.ChangeShapes Go.WideShapes Go.ChangeAt Go.RowKit
set_option linter.unusedVariables false
/-- so far: the instructions of the first k parts -/
def Sofar (ps : List (List UInt8)) (k : Nat) (L : List Ins) : Prop := L.length = k ∧ ∀ j p x, j < k → ps[j]? = some p → L[j]? = some x → stepF j p = some x
theorem Sofar.snoc {ps : List (List UInt8)} {k : Nat} {L : List Ins} {p : List UInt8} {x : Ins} (h : Sofar ps k L) (hp : ps[k]? = some p) (hx : stepF k p = some x) : Sofar ps (k + 1) (L ++ [x]) := by
  obtain ⟨h1, h2⟩ := h
  refine ⟨by simp [h1], fun j q y hj hq hy => ?_⟩
  by_cases e : j = k
  · subst e
    rw [List.getElem?_append_right (by omega), h1, Nat.sub_self] at hy
    simp at hy
    subst hy
    rw [hp] at hq
    injection hq with hq
    subst hq
    exact hx
  · rw [List.getElem?_append_left (by omega)] at hy
    exact h2 j q y (by omega) hq hy
theorem code_none {s : List UInt8} {ps : List (List UInt8)} {k : Nat} {p : List UInt8} (hs : s ≠ []) (hps : partsF 59 s = ps) (hp : ps[k]? = some p) (hx : stepF k p = none) : codeCF s = none := by
  cases h : codeCF s with
  | none => rfl
  | some xs =>
    obtain ⟨-, -, h1, h2⟩ := code_to hs h
    rw [hps] at h1 h2
    have hk := (List.getElem?_eq_some_iff.1 hp).1
    have := h2 k p _ hp (List.getElem?_eq_getElem (by omega))
    rw [hx] at this
    cases this
theorem code_done {s : List UInt8} {ps : List (List UInt8)} {L : List Ins} (hs : s ≠ []) (hps : partsF 59 s = ps) (h : Sofar ps ps.length L) : codeCF s = if L.length ≤ 16 then some L else none := by
  have hg : Good (partsF 59 s) L := by
    rw [hps]
    exact ⟨h.1.symm, fun j p x hp hx => h.2 j p x (List.getElem?_eq_some_iff.1 hp).1 hp hx⟩
  split
  · exact code_from hs (by assumption) hg
  · cases hc : codeCF s with
    | none => rfl
    | some xs =>
      obtain ⟨-, h1, h2, -⟩ := code_to hs hc
      have := hg.1
      omega
end Go.Proofs.YtmickgldnfkiiaaDoor
