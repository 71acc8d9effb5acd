/- The reading of arguments that are slices of structs of two integers. -/
import Derived.Test.YtkpgjeeofghldaaLaw2
import Derived.Test.YtkpgjeeofghldaaTwo
namespace Go.Proofs.Ytkpgjeeofghldaa
set_option maxRecDepth 20000
set_option linter.unusedSimpArgs false
set_option linter.unusedVariables false
open Go.RowKit Go.WideShapes Go.ChangeShapes Go.ChangeAt Go.Joins
section
variable {H : Type} {enc : TypeId × Value → H} {P : Program} {w : World} {base : Nat} {r : Reach}
theorem cells_p2 {t : TypeId} {f0 f1 : Field} {n : Nat} {cs : List Value} {y : DataW H × List MemPlace} (hs : P.underlying t = some (.struct #[f0, f1])) (hC : P.cellsOf t = 2)
    (ho : f0.offset = 0 ∧ f1.offset = 1) (hk : P.cellsOf f0.type = 1 ∧ P.cellsOf f1.type = 1)
    (hi : P.underlying f0.type = some (.int .i64) ∧ P.underlying f1.type = some (.int .i64))
    (h : DataW.trod enc P w 0 (fun _ => true) true n t cs = some y) : ∃ x : P2, cs = p2C x ∧ ((Lit.int .i64 x.a).wf = true ∧ (Lit.int .i64 x.b).wf = true) := by
  obtain ⟨y0, y1, n', hx, hlen, h0, h1⟩ := trod_struct2 hs h
  rw [hC] at hlen
  match cs, hlen with
  | [c0, c1], _ =>
    rw [ho.1, hk.1] at h0
    rw [ho.2, hk.2] at h1
    obtain ⟨a, ha, -, wa⟩ := DataW.trod_int hi.1 h0
    obtain ⟨b, hb, -, wb⟩ := DataW.trod_int hi.2 h1
    simp at ha hb
    subst ha hb
    exact ⟨⟨a, b⟩, rfl, wa, wb⟩
theorem flat_p2 (xs : List P2) : xs.flatMap p2C = flc2 xs := by
  unfold flc2 fl2 ints
  rw [List.map_flatMap]
  rfl
/-- a struct of two 64-bit integers -/
def P2R (x : P2) : Prop := (Lit.int .i64 x.a).wf = true ∧ (Lit.int .i64 x.b).wf = true
theorem read_p2s {t e : TypeId} {f0 f1 : Field} {n : Nat} {c : Value} {y : DataW H × List MemPlace} (ht : P.underlying t = some (.slice e)) (hs : P.underlying e = some (.struct #[f0, f1])) (hC : P.cellsOf e = 2)
    (ho : f0.offset = 0 ∧ f1.offset = 1) (hk : P.cellsOf f0.type = 1 ∧ P.cellsOf f1.type = 1)
    (hi : P.underlying f0.type = some (.int .i64) ∧ P.underlying f1.type = some (.int .i64))
    (h : DataW.trod enc P w 0 (fun _ => true) true n t [c] = some y) : ∃ xs : List P2, RdA w c 2 xs.length (flc2 xs) ∧ ∀ x ∈ xs, P2R x := by
  haveI : Inhabited P2 := ⟨⟨0, 0⟩⟩
  obtain ⟨xs, h1, h2⟩ := read_sl (α := P2) p2C P2R 2 (fun _ => rfl) (by omega) ht hC (fun n cs y h => by obtain ⟨x, hx, h1, h2⟩ := cells_p2 hs hC ho hk hi h; exact ⟨x, hx, h1, h2⟩) h
  rw [flat_p2] at h1
  exact ⟨xs, h1, h2⟩
theorem read_p2 {t : TypeId} {f0 f1 : Field} {v : Value} {d : DataW H} {p : List MemPlace} (hs : P.underlying t = some (.struct #[f0, f1])) (hC : P.cellsOf t = 2) (ho : f0.offset = 0 ∧ f1.offset = 1) (hk : P.cellsOf f0.type = 1 ∧ P.cellsOf f1.type = 1)
    (hi : P.underlying f0.type = some (.int .i64) ∧ P.underlying f1.type = some (.int .i64))
    (hv : Value.okWide P w r base t v) (h : DataW.Trod enc P w 0 (fun _ => true) true t v d p) : ∃ x : P2, v = .agg #[.int .i64 x.a, .int .i64 x.b] ∧ P2R x := by
  obtain ⟨cs, rfl, hsz⟩ := okWide_struct hs hv
  obtain ⟨fuel, hf⟩ := h
  obtain ⟨x, hx, h1, h2⟩ := cells_p2 hs hC ho hk hi hf
  refine ⟨x, ?_, h1, h2⟩
  have : cs.toList = p2C x := by simpa [Value.cells] using hx
  cases cs
  simp only at this
  subst this
  rfl
end
end Go.Proofs.Ytkpgjeeofghldaa
