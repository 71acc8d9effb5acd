/- The reading of arguments that are benches: three rows of integers, a row of pairs and an integer. -/
import Derived.Test.YtkpgjeeofghldaaLaw3
import Derived.Test.YtkpgjeeofghldaaN5
import Derived.Deep.Strs
namespace Go.Proofs.Ytkpgjeeofghldaa
set_option maxRecDepth 20000
set_option linter.unusedSimpArgs false
set_option linter.unusedVariables false
open Go.RowKit Go.WideShapes Go.ChangeShapes Go.ChangeAt Go.Joins
section
variable {H : Type} {enc : TypeId × Value → H} {P : Program} {w : World} {base : Nat} {r : Reach}
theorem read_bench {t e0 e1 : TypeId} {f0 f1 f2 f3 f4 g0 g1 : Field} {v : Value} {d : DataW H} {p : List MemPlace} (hs : P.underlying t = some (.struct #[f0, f1, f2, f3, f4])) (ho : (f0.offset = 0 ∧ f1.offset = 1) ∧ f2.offset = 2 ∧ f3.offset = 3 ∧ f4.offset = 4) (hC : P.cellsOf t = 5)
    (hk : (P.cellsOf f0.type = 1 ∧ P.cellsOf f1.type = 1) ∧ P.cellsOf f2.type = 1 ∧ P.cellsOf f3.type = 1 ∧ P.cellsOf f4.type = 1)
    (h0 : P.underlying f0.type = some (.slice e0)) (he0 : P.underlying e0 = some (.int .i64)) (hc0 : P.cellsOf e0 = 1)
    (h1 : P.underlying f1.type = some (.slice e1)) (hs1 : P.underlying e1 = some (.struct #[g0, g1])) (hC1 : P.cellsOf e1 = 2) (hgo : g0.offset = 0 ∧ g1.offset = 1) (hgk : P.cellsOf g0.type = 1 ∧ P.cellsOf g1.type = 1)
    (hgi : P.underlying g0.type = some (.int .i64) ∧ P.underlying g1.type = some (.int .i64))
    (h2 : P.underlying f2.type = some (.slice e0)) (h3 : P.underlying f3.type = some (.slice e0)) (h4 : P.underlying f4.type = some (.int .i64))
    (hv : Value.okWide P w r base t v) (h : DataW.Trod enc P w 0 (fun _ => true) true t v d p) : ∃ (a b c u : Value) (B : Bn), v = .agg #[a, b, c, u, .int .i64 B.n] ∧ RdABn w a b c u B ∧ BnR B := by
  obtain ⟨cs, rfl, hsz⟩ := okWide_struct hs hv
  obtain ⟨l⟩ := cs
  match l, hsz.trans hC with
  | [c0, c1, c2, c3, c4], _ =>
    obtain ⟨fuel, hf⟩ := h
    obtain ⟨xs, n, _, -, _, hlen, hall⟩ := DataW.trod_struct hs hf
    match xs, hlen with
    | [y0, y1, y2, y3, y4], _ =>
      have hy0 := hall 0 f0 rfl
      have hy1 := hall 1 f1 rfl
      have hy2 := hall 2 f2 rfl
      have hy3 := hall 3 f3 rfl
      have hy4 := hall 4 f4 rfl
      rw [ho.1.1, hk.1.1] at hy0
      rw [ho.1.2, hk.1.2] at hy1
      rw [ho.2.1, hk.2.1] at hy2
      rw [ho.2.2.1, hk.2.2.1] at hy3
      rw [ho.2.2.2, hk.2.2.2] at hy4
      obtain ⟨x0, a0, w0⟩ := read_ints h0 he0 hc0 (c := c0) (y := y0) (by simpa [Value.cells] using hy0)
      obtain ⟨x1, a1, w1⟩ := read_p2s h1 hs1 hC1 hgo hgk hgi (c := c1) (y := y1) (by simpa [Value.cells] using hy1)
      obtain ⟨x2, a2, w2⟩ := read_ints h2 he0 hc0 (c := c2) (y := y2) (by simpa [Value.cells] using hy2)
      obtain ⟨x3, a3, w3⟩ := read_ints h3 he0 hc0 (c := c3) (y := y3) (by simpa [Value.cells] using hy3)
      obtain ⟨x4, e4, -, w4⟩ := DataW.trod_int h4 (cs := [c4]) (x := y4) (by simpa [Value.cells] using hy4)
      simp at e4
      subst e4
      refine ⟨c0, c1, c2, c3, ⟨x0, x1, x2, x3, x4⟩, rfl, ⟨a0, a1, a2, a3⟩, fun x hx => ?_⟩
      simp only [allBn, List.mem_append] at hx
      rcases hx with hx | hx | hx
      · exact w0 x hx
      · exact w2 x hx
      · exact w3 x hx
end
end Go.Proofs.Ytkpgjeeofghldaa
