/- What DrawPoke may give: a memory, an address and a value in their bounds. Condition: the bytes can be read, at most 1048576. -/
import Derived.Test.YtmickgldnfkiiaaDraw
namespace Go.Proofs.Ytmickgldnfkiiaa
set_option maxRecDepth 20000
set_option linter.unusedSimpArgs false
set_option linter.unusedVariables false
open Go.ChangeShapes Go.WideShapes Go.ChangeAt Go.RowKit
set_option linter.unusedVariables false
/-- what is known while a drawn memory waits in a variable: the cursor, the result's block, the variable's block, the row -/
def Waits (g r gm : Nat) (w : World) (A1 : Option Addr) (c1 : Nat) (ys : List Int) (bs : List Nat) (W : World) : Prop :=
  Cur w.heap.size W g ∧ Below w.heap.size w W ∧ (∃ u, Bk W r #[u] 27) ∧ Bk W gm #[.slice A1 ys.length c1] 27 ∧ Own W (.slice A1 ys.length c1) 1 ys.length (ints ys) bs ∧ g ≠ r ∧ g ≠ gm ∧ g ∉ bs ∧ w.heap.size ≤ g ∧ w.heap.size ≤ r ∧ r < g ∧ r ≠ gm ∧ r ∉ bs
theorem Waits.go {g r gm c1 : Nat} {w W W' : World} {A1 : Option Addr} {ys : List Int} {bs : List Nat} (h : Waits g r gm w A1 c1 ys bs W) (hc : Cur w.heap.size W' g) (ho : Only [g] W W') : Waits g r gm w A1 c1 ys bs W' := by
  obtain ⟨h1, h2, ⟨u, h3⟩, h4, h5, h6, h7, h8, h9, h10⟩ := h
  exact ⟨hc, h2.trans (ho.below h2.size (by simpa using h9)), ⟨u, h3.only ho (by simpa using h6.symm)⟩, h4.only ho (by simpa using h7.symm), h5.only ho (fun b hb hm => by simp at hm; subst hm; exact h8 hb), h6, h7, h8, h9, h10⟩
theorem Waits.below {g r gm c1 : Nat} {w W W' : World} {A1 : Option Addr} {ys : List Int} {bs : List Nat} (h : Waits g r gm w A1 c1 ys bs W) (hb : Below W.heap.size W W') : Waits g r gm w A1 c1 ys bs W' :=
  h.go (h.1.below hb) (Only.of_below hb _)
theorem waits_held {g r gm c1 : Nat} {w W : World} {A1 : Option Addr} {ys : List Int} {bs : List Nat} (h : Waits g r gm w A1 c1 ys bs W) : W.cell? ⟨gm, 0, none⟩ = some (.slice A1 ys.length c1) ∧ Hid (Waits g r gm w A1 c1 ys bs W) :=
  ⟨(h.2.2.2.1.at_ 0 (x := .slice A1 ys.length c1) rfl).1, Lib.hid h⟩
theorem waits_alloc {g r gm c1 : Nat} {w W : World} {A1 : Option Addr} {ys : List Int} {bs : List Nat} (h : W.cell? ⟨gm, 0, none⟩ = some (.slice A1 ys.length c1) ∧ Hid (Waits g r gm w A1 c1 ys bs W)) (o : Obj) :
    (W.alloc o).cell? ⟨gm, 0, none⟩ = some (.slice A1 ys.length c1) ∧ Hid (Waits g r gm w A1 c1 ys bs (W.alloc o)) := waits_held (h.2.out.below ((Below.refl _ _).alloc (Nat.le_refl _) o))
theorem waits_store {g r gm c1 : Nat} {w W : World} {A1 : Option Addr} {ys : List Int} {bs : List Nat} (h : W.cell? ⟨gm, 0, none⟩ = some (.slice A1 ys.length c1) ∧ Hid (Waits g r gm w A1 c1 ys bs W)) (x : Value) :
    (W.setCell ⟨r, 0, none⟩ x).cell? ⟨gm, 0, none⟩ = some (.slice A1 ys.length c1) ∧ Hid (Waits g r gm w A1 c1 ys bs (W.setCell ⟨r, 0, none⟩ x)) := by
  obtain ⟨h1, h2, ⟨u, h3⟩, h4, h5, h6, h7, h8, h9, h10, h11, h12, h13⟩ := h.2.out
  have hs : Only [r] W (W.setCell ⟨r, 0, none⟩ x) := Only.setCell W x
  have hcur : Cur w.heap.size (W.setCell ⟨r, 0, none⟩ x) g := by
    obtain ⟨A, n, c, i, y, hk, q1, q2, q3, q4, q5, q6⟩ := h1
    refine ⟨A, n, c, i, y, hk.only hs (by simpa using h6), q1, q2, q3, q4, q5.keep (B := 0) (fun ad ha hn => hs.block _ (by obtain ⟨ad', e1, e2, _⟩ := q5 hn; rw [ha] at e1; injection e1 with e1; subst e1; exact e2) ?_) hs.size, q6⟩
    have := q6 ad ha hn
    simp
    omega
  refine waits_held ⟨hcur, h2.trans (hs.below h2.size (by simpa using h10)), ⟨x, h3.set_ 0 x⟩, h4.only hs (by simpa using h12.symm), h5.only hs (fun b hb hm => by simp at hm; subst hm; exact h13 hb), h6, h7, h8, h9, h10, h11, h12, h13⟩
end Go.Proofs.Ytmickgldnfkiiaa
