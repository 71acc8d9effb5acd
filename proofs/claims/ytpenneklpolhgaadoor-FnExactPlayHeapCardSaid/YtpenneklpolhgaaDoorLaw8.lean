/- The reading of arguments that are heaps: a row of integers and a row of truth values. -/
import Derived.Test.YtpenneklpolhgaaDoorLaw3
import Derived.Test.YtpenneklpolhgaaDoorVH
import Derived.Deep.Strs
namespace Go.Proofs.YtpenneklpolhgaaDoor
set_option maxRecDepth 20000
set_option linter.unusedSimpArgs false
set_option linter.unusedVariables false
open Go.RowKit Go.WideShapes Go.ChangeShapes Go.ChangeAt Go.Joins
section
variable {H : Type} {enc : TypeId × Value → H} {P : Program} {w : World} {base : Nat} {r : Reach}
theorem flat_bools (xs : List Bool) : xs.flatMap (fun b => [Value.bool b]) = bools xs := flat_ones xs
theorem read_bools {t e : TypeId} {n : Nat} {c : Value} {y : DataW H × List MemPlace} (ht : P.underlying t = some (.slice e)) (he : P.underlying e = some .bool) (hC : P.cellsOf e = 1)
    (h : DataW.trod enc P w 0 (fun _ => true) true n t [c] = some y) : ∃ xs : List Bool, RdA w c 1 xs.length (bools xs) := by
  haveI : Inhabited Bool := ⟨false⟩
  obtain ⟨xs, h1, -⟩ := read_sl (α := Bool) (fun b => [Value.bool b]) (fun _ => True) 1 (fun _ => rfl) (by omega) ht hC (fun n cs y h => by
    obtain ⟨a, ha, -⟩ := DataW.trod_bool he h
    exact ⟨a, ha, trivial⟩) h
  rw [flat_bools] at h1
  exact ⟨xs, h1⟩
theorem read_heap {t e0 e1 : TypeId} {f0 f1 : Field} {v : Value} {d : DataW H} {p : List MemPlace} (hs : P.underlying t = some (.struct #[f0, f1])) (ho : f0.offset = 0 ∧ f1.offset = 1) (hC : P.cellsOf t = 2) (hk : P.cellsOf f0.type = 1 ∧ P.cellsOf f1.type = 1)
    (h0 : P.underlying f0.type = some (.slice e0)) (he0 : P.underlying e0 = some (.int .i64)) (hc0 : P.cellsOf e0 = 1) (h1 : P.underlying f1.type = some (.slice e1)) (he1 : P.underlying e1 = some .bool) (hc1 : P.cellsOf e1 = 1)
    (hv : Value.okWide P w r base t v) (h : DataW.Trod enc P w 0 (fun _ => true) true t v d p) : ∃ (c u : Value) (h : Hp), v = .agg #[c, u] ∧ RdAHp w c u h ∧ ∀ x ∈ h.g, (Lit.int .i64 x).wf = true := by
  obtain ⟨cs, rfl, hsz⟩ := okWide_struct hs hv
  obtain ⟨l⟩ := cs
  match l, hsz.trans hC with
  | [c0, c1], _ =>
    obtain ⟨fuel, hf⟩ := h
    obtain ⟨y0, y1, n, _, _, hy0, hy1⟩ := trod_struct2 hs hf
    rw [ho.1, hk.1] at hy0
    rw [ho.2, hk.2] at hy1
    obtain ⟨xs, hx, wx⟩ := read_ints h0 he0 hc0 (c := c0) (by simpa [Value.cells] using hy0)
    obtain ⟨zs, hz⟩ := read_bools h1 he1 hc1 (c := c1) (by simpa [Value.cells] using hy1)
    exact ⟨c0, c1, ⟨xs, zs⟩, rfl, ⟨hx, hz⟩, wx⟩
end
end Go.Proofs.YtpenneklpolhgaaDoor
