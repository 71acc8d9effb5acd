/- The reading of arguments that are structs of three integers, and slices of such. -/
import Derived.Test.YtiamkgkhamnaeaaLaw2
import Derived.Test.YtiamkgkhamnaeaaThree
import Derived.Deep.Strs
namespace Go.Proofs.Ytiamkgkhamnaeaa
set_option maxRecDepth 20000
set_option linter.unusedSimpArgs false
set_option linter.unusedVariables false
open Go.RowKit Go.WideShapes Go.ChangeShapes Go.ChangeAt Go.Joins
section
variable {H : Type} {enc : TypeId × Value → H} {P : Program} {w : World} {base : Nat} {r : Reach}
/-- a struct of three 64-bit integers -/
def O3R (x : O3) : Prop := (Lit.int .i64 x.k).wf = true ∧ (Lit.int .i64 x.t).wf = true ∧ (Lit.int .i64 x.x).wf = true
theorem cells_o3 {t : TypeId} {f0 f1 f2 : Field} {n : Nat} {cs : List Value} {y : DataW H × List MemPlace} (hs : P.underlying t = some (.struct #[f0, f1, f2])) (hC : P.cellsOf t = 3)
    (ho : f0.offset = 0 ∧ f1.offset = 1 ∧ f2.offset = 2) (hk : P.cellsOf f0.type = 1 ∧ P.cellsOf f1.type = 1 ∧ P.cellsOf f2.type = 1)
    (hi : P.underlying f0.type = some (.int .i64) ∧ P.underlying f1.type = some (.int .i64) ∧ P.underlying f2.type = some (.int .i64))
    (h : DataW.trod enc P w 0 (fun _ => true) true n t cs = some y) : ∃ x : O3, cs = o3C x ∧ O3R x := by
  obtain ⟨y0, y1, y2, n', hx, hlen, h0, h1, h2⟩ := Go.Deep.trod_struct3 hs h
  rw [hC] at hlen
  match cs, hlen with
  | [c0, c1, c2], _ =>
    rw [ho.1, hk.1] at h0
    rw [ho.2.1, hk.2.1] at h1
    rw [ho.2.2, hk.2.2] at h2
    obtain ⟨a, ha, -, wa⟩ := DataW.trod_int hi.1 h0
    obtain ⟨b, hb, -, wb⟩ := DataW.trod_int hi.2.1 h1
    obtain ⟨c, hc, -, wc⟩ := DataW.trod_int hi.2.2 h2
    simp at ha hb hc
    subst ha hb hc
    exact ⟨⟨a, b, c⟩, rfl, wa, wb, wc⟩
theorem flat_o3 (xs : List O3) : xs.flatMap o3C = flc3 xs := by
  unfold flc3 fl3 ints
  rw [List.map_flatMap]
  rfl
theorem read_o3s {t e : TypeId} {f0 f1 f2 : Field} {n : Nat} {c : Value} {y : DataW H × List MemPlace} (ht : P.underlying t = some (.slice e)) (hs : P.underlying e = some (.struct #[f0, f1, f2])) (hC : P.cellsOf e = 3)
    (ho : f0.offset = 0 ∧ f1.offset = 1 ∧ f2.offset = 2) (hk : P.cellsOf f0.type = 1 ∧ P.cellsOf f1.type = 1 ∧ P.cellsOf f2.type = 1)
    (hi : P.underlying f0.type = some (.int .i64) ∧ P.underlying f1.type = some (.int .i64) ∧ P.underlying f2.type = some (.int .i64))
    (h : DataW.trod enc P w 0 (fun _ => true) true n t [c] = some y) : ∃ xs : List O3, RdA w c 3 xs.length (flc3 xs) ∧ ∀ x ∈ xs, O3R x := by
  haveI : Inhabited O3 := ⟨⟨0, 0, 0⟩⟩
  obtain ⟨xs, h1, h2⟩ := read_sl (α := O3) o3C O3R 3 (fun _ => rfl) (by omega) ht hC (fun n cs y h => cells_o3 hs hC ho hk hi h) h
  rw [flat_o3] at h1
  exact ⟨xs, h1, h2⟩
theorem read_o3 {t : TypeId} {f0 f1 f2 : Field} {v : Value} {d : DataW H} {p : List MemPlace} (hs : P.underlying t = some (.struct #[f0, f1, f2])) (hC : P.cellsOf t = 3)
    (ho : f0.offset = 0 ∧ f1.offset = 1 ∧ f2.offset = 2) (hk : P.cellsOf f0.type = 1 ∧ P.cellsOf f1.type = 1 ∧ P.cellsOf f2.type = 1)
    (hi : P.underlying f0.type = some (.int .i64) ∧ P.underlying f1.type = some (.int .i64) ∧ P.underlying f2.type = some (.int .i64))
    (hv : Value.okWide P w r base t v) (h : DataW.Trod enc P w 0 (fun _ => true) true t v d p) : ∃ x : O3, v = .agg #[.int .i64 x.k, .int .i64 x.t, .int .i64 x.x] ∧ O3R x := by
  obtain ⟨cs, rfl, hsz⟩ := okWide_struct hs hv
  obtain ⟨fuel, hf⟩ := h
  obtain ⟨x, hx, h1⟩ := cells_o3 hs hC ho hk hi hf
  refine ⟨x, ?_, h1⟩
  have : cs.toList = o3C x := by simpa [Value.cells] using hx
  cases cs
  simp only at this
  subst this
  rfl
end
end Go.Proofs.Ytiamkgkhamnaeaa
