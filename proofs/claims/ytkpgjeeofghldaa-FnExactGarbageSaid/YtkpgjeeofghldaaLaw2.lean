/- The reading of arguments that are instructions, codes, lists of codes, programs: a slice whose elements read in any way; a struct of integers. -/
import Derived.Test.YtkpgjeeofghldaaLaw
import Derived.Test.YtkpgjeeofghldaaM3b
import Derived.Lib.SmallJoins
namespace Go.Proofs.Ytkpgjeeofghldaa
set_option maxRecDepth 20000
set_option linter.unusedSimpArgs false
set_option linter.unusedVariables false
open Go.RowKit Go.WideShapes Go.ChangeShapes Go.ChangeAt Go.Joins
section
variable {H : Type} {enc : TypeId × Value → H} {P : Program} {w : World} {base : Nat} {r : Reach}
theorem getElem_flat {α : Type} {g : α → List Value} {s : Nat} (hg : ∀ x, (g x).length = s) : ∀ {xs : List α} {j : Nat} {u : Value}, (xs.flatMap g)[j]? = some u → ∃ k x, xs[k]? = some x ∧ j = k * s + (j - k * s) ∧ j - k * s < s ∧ (g x)[j - k * s]? = some u
  | [], j, u, h => by simp at h
  | x :: xs, j, u, h => by
    rw [List.flatMap_cons] at h
    by_cases hj : j < s
    · rw [List.getElem?_append_left (by rw [hg]; exact hj)] at h
      exact ⟨0, x, rfl, by simp, by simpa using hj, by simpa using h⟩
    · rw [List.getElem?_append_right (by rw [hg]; omega), hg] at h
      obtain ⟨k, y, h1, h2, h3, h4⟩ := getElem_flat hg h
      have e : (k + 1) * s = k * s + s := Nat.succ_mul k s
      refine ⟨k + 1, y, by simpa using h1, ?_, ?_, ?_⟩
      · omega
      · omega
      · rw [show j - (k + 1) * s = j - s - k * s by omega]
        exact h4
/-- a slice whose elements read in any way: α tells what an element is, g its cells -/
theorem read_sl {α : Type} [Inhabited α] (g : α → List Value) (R : α → Prop) (s : Nat) (hg : ∀ x, (g x).length = s) (hs0 : 0 < s) {t e : TypeId} {n : Nat} {c : Value} {y : DataW H × List MemPlace} (ht : P.underlying t = some (.slice e)) (hs : P.cellsOf e = s)
    (hel : ∀ n cs y, DataW.trod enc P w 0 (fun _ => true) true n e cs = some y → ∃ x, cs = g x ∧ R x)
    (h : DataW.trod enc P w 0 (fun _ => true) true n t [c] = some y) : ∃ xs : List α, RdA w c s xs.length (xs.flatMap g) ∧ ∀ x ∈ xs, R x := by
  rcases Deep.open_slice ht h with ⟨h0, _⟩ | ⟨a, len, cap, m, n', D, Pl, h0, _, hl, hm, hmm, _, hall⟩
  · injection h0 with h0
    subst h0
    exact ⟨[], ⟨none, 0, rfl, by simp, Nat.le_refl _, by simp [maxLen], fun h => absurd h (by simp)⟩, by simp⟩
  · injection h0 with h0
    subst h0
    simp only [if_true] at hmm
    subst hmm
    have hx : ∀ i, i < len → ∃ x : α, (∀ j u, (g x)[j]? = some u → w.cell? (a.add (i * s + j)) = some u) ∧ R x := by
      intro i hi
      obtain ⟨cs', hc', ht'⟩ := hall i (by omega)
      obtain ⟨x, rfl, hR⟩ := hel _ _ _ ht'
      refine ⟨x, fun j u hu => ?_, hR⟩
      rw [hs] at hc'
      have h2 := (World.cells?_some hc').2.2 j (by have := (List.getElem?_eq_some_iff.1 hu).1; rw [hg] at this; exact this)
      rw [Deep.add_add] at h2
      exact h2.trans hu
    obtain ⟨f, hf⟩ := Deep.choose_lt hx
    refine ⟨(List.range len).map f, ⟨some a, _, by simp, ?_, by simpa using hl, hm, fun hp => ⟨a, rfl, ?_, fun j u hu => ?_⟩⟩, ?_⟩
    · rw [List.length_flatMap]
      simp [hg, Function.comp_def, List.map_const']
    · have hp' : 0 < len := by simpa using hp
      obtain ⟨hf0, -⟩ := hf 0 hp'
      have := block_lt_of_cell (hf0 0 _ (List.getElem?_eq_getElem (by rw [hg]; exact hs0)))
      rwa [add_block] at this
    · obtain ⟨k, x, h1, h2, h3, h4⟩ := getElem_flat hg hu
      have hk : k < len := by have := (List.getElem?_eq_some_iff.1 h1).1; simpa using this
      obtain rfl : x = f k := by rw [List.getElem?_map, List.getElem?_range hk] at h1; simpa using h1.symm
      rw [h2]
      exact (hf k hk).1 _ _ h4
    · intro x hx'
      obtain ⟨i, hi, rfl⟩ := List.mem_map.1 hx'
      exact (hf i (List.mem_range.1 hi)).2
theorem drop_take_one {cs : List Value} {i : Nat} {x : Value} (h : cs[i]? = some x) : (cs.drop i).take 1 = [x] := by
  obtain ⟨hi, rfl⟩ := List.getElem?_eq_some_iff.1 h
  rw [List.drop_eq_getElem_cons hi]
  rfl
/-- the cells of a struct of four integers -/
theorem cells_ins {t : TypeId} {f0 f1 f2 f3 : Field} {n : Nat} {cs : List Value} {y : DataW H × List MemPlace} (hs : P.underlying t = some (.struct #[f0, f1, f2, f3])) (hC : P.cellsOf t = 4)
    (ho : f0.offset = 0 ∧ f1.offset = 1 ∧ f2.offset = 2 ∧ f3.offset = 3) (hk : P.cellsOf f0.type = 1 ∧ P.cellsOf f1.type = 1 ∧ P.cellsOf f2.type = 1 ∧ P.cellsOf f3.type = 1)
    (hi : P.underlying f0.type = some (.int .i64) ∧ P.underlying f1.type = some (.int .i64) ∧ P.underlying f2.type = some (.int .i64) ∧ P.underlying f3.type = some (.int .i64))
    (h : DataW.trod enc P w 0 (fun _ => true) true n t cs = some y) : ∃ x : Ins, cs = insC x ∧ ((Lit.int .i64 x.o).wf = true ∧ (Lit.int .i64 x.r).wf = true ∧ (Lit.int .i64 x.s).wf = true ∧ (Lit.int .i64 x.n).wf = true) := by
  obtain ⟨y0, y1, y2, y3, n', hx, hlen, h0, h1, h2, h3⟩ := trod_struct4 hs h
  rw [hC] at hlen
  match cs, hlen with
  | [c0, c1, c2, c3], _ =>
    rw [ho.1, hk.1] at h0
    rw [ho.2.1, hk.2.1] at h1
    rw [ho.2.2.1, hk.2.2.1] at h2
    rw [ho.2.2.2, hk.2.2.2] at h3
    obtain ⟨a, ha, -, wa⟩ := DataW.trod_int hi.1 h0
    obtain ⟨b, hb, -, wb⟩ := DataW.trod_int hi.2.1 h1
    obtain ⟨c, hc, -, wc⟩ := DataW.trod_int hi.2.2.1 h2
    obtain ⟨d, hd, -, wd⟩ := DataW.trod_int hi.2.2.2 h3
    simp at ha hb hc hd
    subst ha hb hc hd
    exact ⟨⟨a, b, c, d⟩, rfl, wa, wb, wc, wd⟩
theorem read_ins {t : TypeId} {f0 f1 f2 f3 : Field} {v : Value} {d : DataW H} {p : List MemPlace} (hs : P.underlying t = some (.struct #[f0, f1, f2, f3])) (hC : P.cellsOf t = 4)
    (ho : f0.offset = 0 ∧ f1.offset = 1 ∧ f2.offset = 2 ∧ f3.offset = 3) (hk : P.cellsOf f0.type = 1 ∧ P.cellsOf f1.type = 1 ∧ P.cellsOf f2.type = 1 ∧ P.cellsOf f3.type = 1)
    (hi : P.underlying f0.type = some (.int .i64) ∧ P.underlying f1.type = some (.int .i64) ∧ P.underlying f2.type = some (.int .i64) ∧ P.underlying f3.type = some (.int .i64))
    (hv : Value.okWide P w r base t v) (h : DataW.Trod enc P w 0 (fun _ => true) true t v d p) : ∃ x : Ins, v = (Value.agg #[.int .i64 x.o, .int .i64 x.r, .int .i64 x.s, .int .i64 x.n]) ∧ ((Lit.int .i64 x.o).wf = true ∧ (Lit.int .i64 x.r).wf = true ∧ (Lit.int .i64 x.s).wf = true ∧ (Lit.int .i64 x.n).wf = true) := by
  obtain ⟨cs, rfl, hsz⟩ := okWide_struct hs hv
  obtain ⟨fuel, hf⟩ := h
  obtain ⟨x, hx, hw⟩ := cells_ins hs hC ho hk hi hf
  refine ⟨x, ?_, hw⟩
  have : cs.toList = insC x := by simpa [Value.cells] using hx
  cases cs
  simp only at this
  subst this
  rfl
theorem read_code {t e : TypeId} {f0 f1 f2 f3 : Field} {n : Nat} {c : Value} {y : DataW H × List MemPlace} (ht : P.underlying t = some (.slice e)) (hs : P.underlying e = some (.struct #[f0, f1, f2, f3])) (hC : P.cellsOf e = 4)
    (ho : f0.offset = 0 ∧ f1.offset = 1 ∧ f2.offset = 2 ∧ f3.offset = 3) (hk : P.cellsOf f0.type = 1 ∧ P.cellsOf f1.type = 1 ∧ P.cellsOf f2.type = 1 ∧ P.cellsOf f3.type = 1)
    (hi : P.underlying f0.type = some (.int .i64) ∧ P.underlying f1.type = some (.int .i64) ∧ P.underlying f2.type = some (.int .i64) ∧ P.underlying f3.type = some (.int .i64))
    (h : DataW.trod enc P w 0 (fun _ => true) true n t [c] = some y) : ∃ xs : List Ins, RdA w c 4 xs.length (flc xs) := by
  haveI : Inhabited Ins := ⟨⟨0, 0, 0, 0⟩⟩
  obtain ⟨xs, h1, -⟩ := read_sl (α := Ins) insC (fun _ => True) 4 (fun _ => rfl) (by omega) ht hC (fun n cs y h => by obtain ⟨x, hx, -⟩ := cells_ins hs hC ho hk hi h; exact ⟨x, hx, trivial⟩) h
  refine ⟨xs, ?_⟩
  have e : xs.flatMap insC = flc xs := by
    unfold flc fl ints
    rw [List.map_flatMap]
    rfl
  rwa [e] at h1
theorem flat_ones {α β : Type} {f : α → β} : ∀ (l : List α), l.flatMap (fun p => [f p]) = l.map f
  | [] => rfl
  | p :: ps => by rw [List.flatMap_cons, flat_ones ps]; rfl
theorem allRd_of : ∀ {ps : List (Value × List Ins)}, (∀ p ∈ ps, RdA w p.1 4 p.2.length (flc p.2)) → AllRd RdA w (ps.map Prod.fst) (ps.map Prod.snd)
  | [], _ => trivial
  | p :: ps, h => ⟨h p (by simp), allRd_of fun q hq => h q (by simp [hq])⟩
theorem read_codes {t t1 e : TypeId} {f0 f1 f2 f3 : Field} {n : Nat} {c : Value} {y : DataW H × List MemPlace} (ht : P.underlying t = some (.slice t1)) (hC1 : P.cellsOf t1 = 1) (ht1 : P.underlying t1 = some (.slice e)) (hs : P.underlying e = some (.struct #[f0, f1, f2, f3])) (hC : P.cellsOf e = 4)
    (ho : f0.offset = 0 ∧ f1.offset = 1 ∧ f2.offset = 2 ∧ f3.offset = 3) (hk : P.cellsOf f0.type = 1 ∧ P.cellsOf f1.type = 1 ∧ P.cellsOf f2.type = 1 ∧ P.cellsOf f3.type = 1)
    (hi : P.underlying f0.type = some (.int .i64) ∧ P.underlying f1.type = some (.int .i64) ∧ P.underlying f2.type = some (.int .i64) ∧ P.underlying f3.type = some (.int .i64))
    (h : DataW.trod enc P w 0 (fun _ => true) true n t [c] = some y) : ∃ xss : List (List Ins), RdASS w c xss := by
  haveI : Inhabited (Value × List Ins) := ⟨(.slice none 0 0, [])⟩
  obtain ⟨ps, h1, h2⟩ := read_sl (α := Value × List Ins) (fun p => [p.1]) (fun p => RdA w p.1 4 p.2.length (flc p.2)) 1 (fun _ => rfl) (by omega) ht hC1 (fun n cs y h => by
    obtain ⟨n', h'⟩ : ∃ n', n = n' := ⟨n, rfl⟩
    rcases Deep.open_slice ht1 h with ⟨h0, _⟩ | ⟨a, len, cap, m, n', D, Pl, h0, _⟩
    all_goals
      subst h0
      obtain ⟨xs, hxs⟩ := read_code ht1 hs hC ho hk hi h
      exact ⟨(_, xs), rfl, hxs⟩) h
  refine ⟨ps.map Prod.snd, ps.map Prod.fst, ?_, allRd_of h2⟩
  rw [flat_ones] at h1
  simpa using h1
theorem read_prog {t t0 t1 t2 e : TypeId} {g0 g1 f0 f1 f2 f3 : Field} {v : Value} {d : DataW H} {p : List MemPlace} (hp : P.underlying t = some (.struct #[g0, g1])) (hgo : g0.offset = 0 ∧ g1.offset = 1) (hgt : g0.type = t0 ∧ g1.type = t1) (hk0 : P.cellsOf t0 = 1 ∧ P.cellsOf t1 = 1) (hC0 : P.cellsOf t = 2) (ht0 : P.underlying t0 = some (.int .i64))
    (ht1 : P.underlying t1 = some (.slice t2)) (hC1 : P.cellsOf t2 = 1) (ht2 : P.underlying t2 = some (.slice e)) (hs : P.underlying e = some (.struct #[f0, f1, f2, f3])) (hC : P.cellsOf e = 4)
    (ho : f0.offset = 0 ∧ f1.offset = 1 ∧ f2.offset = 2 ∧ f3.offset = 3) (hk : P.cellsOf f0.type = 1 ∧ P.cellsOf f1.type = 1 ∧ P.cellsOf f2.type = 1 ∧ P.cellsOf f3.type = 1)
    (hi : P.underlying f0.type = some (.int .i64) ∧ P.underlying f1.type = some (.int .i64) ∧ P.underlying f2.type = some (.int .i64) ∧ P.underlying f3.type = some (.int .i64))
    (hv : Value.okWide P w r base t v) (h : DataW.Trod enc P w 0 (fun _ => true) true t v d p) : ∃ (c : Value) (p : Pr), v = .agg #[.int .i64 p.c, c] ∧ RdASS w c p.x := by
  obtain ⟨cs, rfl, hsz⟩ := okWide_struct hp hv
  obtain ⟨l⟩ := cs
  match l, hsz.trans hC0 with
  | [c0, c1], _ =>
    obtain ⟨fuel, hf⟩ := h
    obtain ⟨y0, y1, n, _, _, hy0, hy1⟩ := trod_struct2 hp hf
    rw [hgo.1, hgt.1, hk0.1] at hy0
    rw [hgo.2, hgt.2, hk0.2] at hy1
    obtain ⟨a, ha, -, -⟩ := DataW.trod_int ht0 hy0
    obtain ⟨xss, hx⟩ := read_codes ht1 hC1 ht2 hs hC ho hk hi (by simpa [Value.cells] using hy1)
    simp [Value.cells] at ha
    subst ha
    exact ⟨c1, ⟨a, xss⟩, rfl, hx⟩
end
end Go.Proofs.Ytkpgjeeofghldaa
