import Derived.Test.YtiflooopfpcelaaGreatBase
import Derived.Carry
import Derived.ChangeSlices
import Derived.Test.YtiflooopfpcelaaGreatM3b
import Derived.Lib.SmallJoins
import Derived.Test.YtiflooopfpcelaaGreatTwo
import Derived.Test.YtiflooopfpcelaaGreatMach
import Derived.Test.YtiflooopfpcelaaGreatM1
import Derived.Deep.Strs
import Derived.Test.YtiflooopfpcelaaGreatM6
import Derived.Test.YtiflooopfpcelaaGreatV5
/- The last step that all laws share: a call that answers true and leaves all old memory alone meets the row's post. And the reading of arguments. -/
namespace Go.Proofs.YtiflooopfpcelaaGreat
set_option maxRecDepth 20000
set_option linter.unusedSimpArgs false
set_option linter.unusedVariables false
open Go.RowKit Go.WideShapes Go.ChangeShapes Go.ChangeAt
section
variable {H : Type} {enc : TypeId × Value → H} {P : Program}
theorem args_stay (hl : laidOutB P = true) {W W' : World} (hb : Below W.heap.size W W') : ∀ {ts : List TypeId} {vs : List Value} {ds : List (DataW H)} {ps : List MemPlace}, (∀ t ∈ ts, P.readableRec t = true ∧ t < P.types.size) →
    DataW.TrodAll enc P W 0 (fun _ => true) true ts vs ds ps → (∀ x ∈ ps, x.block < W.heap.size) → DataW.TrodAll enc P W' 0 (fun b => decide (b < W.heap.size)) true ts vs ds ps
  | [], vs, ds, ps, _, h, _ => by
    obtain ⟨rfl, rfl, rfl⟩ := trodAll_nil h
    exact trodAll_mk0
  | t :: ts, vs, ds, ps, hr, h, hp => by
    obtain ⟨v, vs1, d, ds1, p, q, rfl, rfl, rfl, h1, h2⟩ := trodAll_cons h
    obtain ⟨r1, r2⟩ := hr t (by simp)
    have g1 := Below.trod hl r1 r2 h1 hb fun x hx => hp x (by simp [hx])
    exact trodAll_cons_mk g1 (args_stay hl hb (fun t ht => hr t (by simp [ht])) h2 fun x hx => hp x (by simp [hx]))
theorem post_law {f : Func} {s : ChangeSpec} {apart : Bool} {W W' : World} {args : Array Value} {ds gs : List (DataW H)} {before : List MemPlace} {tb : TypeId} (hl : laidOutB P = true)
    (hfn : s.fn H (ds ++ gs) = { results := [.lit (.bool true)], args := ds }) (hv : s.vars = []) (hrt : f.resultTypes = #[tb]) (htb : P.underlying tb = some .bool)
    (hread : ∀ t ∈ f.params.toList, P.readableRec t = true ∧ t < P.types.size) (hW : DataW.Whole enc P f.params.toList s.vars apart W args.toList ds gs before) (hb : Below W.heap.size W W') :
    s.post enc P f apart true false false W args (.bool true) W' := by
  have hlt : ∀ p ∈ before, p.block < W.heap.size := fun p hp => hW.lt p hp
  obtain ⟨p, q, hA, hV, hpq, hz, hn⟩ := id hW
  rw [hv] at hV
  obtain ⟨rfl, rfl⟩ := trodVars_none hV
  rw [List.append_nil] at hpq
  subst hpq
  refine ⟨ds, [], before, [], before, [], hW, ?_, ?_, ?_, World.keptBut_mono (fun p hp => ⟨hp, .inr (.inl hp)⟩) (hb.frame (· ∈ before)), fun h => by cases h⟩
  · rw [hfn, hrt]
    exact trodAll_cons_mk (shut_bool htb _) trodAll_mk0
  · rw [hfn]
    exact args_stay hl hb hread hA hlt
  · rw [hfn, hv]
    rfl
variable {w : World} {base : Nat}
/-- a []int that came in -/
theorem read_ints {t e : TypeId} {n : Nat} {c : Value} {y : DataW H × List MemPlace} (ht : P.underlying t = some (.slice e)) (he : P.underlying e = some (.int .i64)) (hc : P.cellsOf e = 1)
    (h : DataW.trod enc P w 0 (fun _ => true) true n t [c] = some y) : ∃ xs : List Int, RdA w c 1 xs.length (ints xs) ∧ ∀ x ∈ xs, (Lit.int .i64 x).wf = true := by
  rcases open_ints ht he hc h with ⟨h0, _⟩ | ⟨a, len, cap, zs, h0, _, hl, hm, hz, _, hcell, hw⟩
  · injection h0 with h0
    subst h0
    exact ⟨[], ⟨none, 0, rfl, by simp [ints], Nat.le_refl _, by simp [maxLen], fun h => absurd h (by simp)⟩, by simp⟩
  · injection h0 with h0
    subst h0
    simp only [if_true] at hz
    have hll : (zs.take len).length = len := by rw [List.length_take]; omega
    refine ⟨zs.take len, ⟨some a, cap, by rw [hll], by rw [ints_len, Nat.mul_one], by omega, hm, fun hp => ⟨a, rfl, ?_, fun j u hu => ?_⟩⟩, fun x hx => hw x (List.mem_of_mem_take hx)⟩
    · have := block_lt_of_cell (hcell 0 (by omega))
      rwa [add_block] at this
    · have hj : j < (zs.take len).length := by have := (List.getElem?_eq_some_iff.1 hu).1; simpa [ints] using this
      rw [ints_at hj] at hu
      injection hu with hu
      subst hu
      rw [hcell j (by omega)]
      rw [hll] at hj
      simp [List.getD_eq_getElem?_getD, hj]
/-- a struct with one field, a []int -/
theorem read_mem {r : Reach} {t t0 e : TypeId} {f0 : Field} {v : Value} {d : DataW H} {p : List MemPlace} (hs : P.underlying t = some (.struct #[f0])) (h0 : f0.type = t0 ∧ f0.offset = 0) (hk : P.cellsOf t0 = 1) (hC : P.cellsOf t = 1)
    (ht : P.underlying t0 = some (.slice e)) (he : P.underlying e = some (.int .i64)) (hc : P.cellsOf e = 1)
    (hv : Value.okWide P w r base t v) (h : DataW.Trod enc P w 0 (fun _ => true) true t v d p) : ∃ (c : Value) (xs : List Int), v = .agg #[c] ∧ RdA w c 1 xs.length (ints xs) ∧ ∀ x ∈ xs, (Lit.int .i64 x).wf = true := by
  obtain ⟨cs, rfl, hsz⟩ := okWide_struct hs hv
  obtain ⟨l⟩ := cs
  match l, hsz.trans hC with
  | [c], _ =>
    obtain ⟨fuel, hf⟩ := h
    obtain ⟨y0, n, _, _, hy⟩ := trod_struct1 hs hf
    rw [h0.1, h0.2, hk] at hy
    obtain ⟨xs, h1, h2⟩ := read_ints ht he hc (by simpa [Value.cells] using hy)
    exact ⟨c, xs, rfl, h1, h2⟩
end
end Go.Proofs.YtiflooopfpcelaaGreat

/- The reading of arguments that are instructions, codes, lists of codes, programs: a slice whose elements read in any way; a struct of integers. -/
namespace Go.Proofs.YtiflooopfpcelaaGreat
set_option maxRecDepth 20000
set_option linter.unusedSimpArgs false
set_option linter.unusedVariables false
open Go.RowKit Go.WideShapes Go.ChangeShapes Go.ChangeAt Go.Joins
section
variable {H : Type} {enc : TypeId × Value → H} {P : Program} {w : World} {base : Nat} {r : Reach}
theorem getElem_flat {α : Type} {g : α → List Value} {s : Nat} (hg : ∀ x, (g x).length = s) : ∀ {xs : List α} {j : Nat} {u : Value}, (xs.flatMap g)[j]? = some u → ∃ k x, xs[k]? = some x ∧ j = k * s + (j - k * s) ∧ j - k * s < s ∧ (g x)[j - k * s]? = some u
  | [], j, u, h => by simp at h
  | x :: xs, j, u, h => by
    rw [List.flatMap_cons] at h
    by_cases hj : j < s
    · rw [List.getElem?_append_left (by rw [hg]; exact hj)] at h
      exact ⟨0, x, rfl, by simp, by simpa using hj, by simpa using h⟩
    · rw [List.getElem?_append_right (by rw [hg]; omega), hg] at h
      obtain ⟨k, y, h1, h2, h3, h4⟩ := getElem_flat hg h
      have e : (k + 1) * s = k * s + s := Nat.succ_mul k s
      refine ⟨k + 1, y, by simpa using h1, ?_, ?_, ?_⟩
      · omega
      · omega
      · rw [show j - (k + 1) * s = j - s - k * s by omega]
        exact h4
/-- a slice whose elements read in any way: α tells what an element is, g its cells -/
theorem read_sl {α : Type} [Inhabited α] (g : α → List Value) (R : α → Prop) (s : Nat) (hg : ∀ x, (g x).length = s) (hs0 : 0 < s) {t e : TypeId} {n : Nat} {c : Value} {y : DataW H × List MemPlace} (ht : P.underlying t = some (.slice e)) (hs : P.cellsOf e = s)
    (hel : ∀ n cs y, DataW.trod enc P w 0 (fun _ => true) true n e cs = some y → ∃ x, cs = g x ∧ R x)
    (h : DataW.trod enc P w 0 (fun _ => true) true n t [c] = some y) : ∃ xs : List α, RdA w c s xs.length (xs.flatMap g) ∧ ∀ x ∈ xs, R x := by
  rcases Deep.open_slice ht h with ⟨h0, _⟩ | ⟨a, len, cap, m, n', D, Pl, h0, _, hl, hm, hmm, _, hall⟩
  · injection h0 with h0
    subst h0
    exact ⟨[], ⟨none, 0, rfl, by simp, Nat.le_refl _, by simp [maxLen], fun h => absurd h (by simp)⟩, by simp⟩
  · injection h0 with h0
    subst h0
    simp only [if_true] at hmm
    subst hmm
    have hx : ∀ i, i < len → ∃ x : α, (∀ j u, (g x)[j]? = some u → w.cell? (a.add (i * s + j)) = some u) ∧ R x := by
      intro i hi
      obtain ⟨cs', hc', ht'⟩ := hall i (by omega)
      obtain ⟨x, rfl, hR⟩ := hel _ _ _ ht'
      refine ⟨x, fun j u hu => ?_, hR⟩
      rw [hs] at hc'
      have h2 := (World.cells?_some hc').2.2 j (by have := (List.getElem?_eq_some_iff.1 hu).1; rw [hg] at this; exact this)
      rw [Deep.add_add] at h2
      exact h2.trans hu
    obtain ⟨f, hf⟩ := Deep.choose_lt hx
    refine ⟨(List.range len).map f, ⟨some a, _, by simp, ?_, by simpa using hl, hm, fun hp => ⟨a, rfl, ?_, fun j u hu => ?_⟩⟩, ?_⟩
    · rw [List.length_flatMap]
      simp [hg, Function.comp_def, List.map_const']
    · have hp' : 0 < len := by simpa using hp
      obtain ⟨hf0, -⟩ := hf 0 hp'
      have := block_lt_of_cell (hf0 0 _ (List.getElem?_eq_getElem (by rw [hg]; exact hs0)))
      rwa [add_block] at this
    · obtain ⟨k, x, h1, h2, h3, h4⟩ := getElem_flat hg hu
      have hk : k < len := by have := (List.getElem?_eq_some_iff.1 h1).1; simpa using this
      obtain rfl : x = f k := by rw [List.getElem?_map, List.getElem?_range hk] at h1; simpa using h1.symm
      rw [h2]
      exact (hf k hk).1 _ _ h4
    · intro x hx'
      obtain ⟨i, hi, rfl⟩ := List.mem_map.1 hx'
      exact (hf i (List.mem_range.1 hi)).2
theorem drop_take_one {cs : List Value} {i : Nat} {x : Value} (h : cs[i]? = some x) : (cs.drop i).take 1 = [x] := by
  obtain ⟨hi, rfl⟩ := List.getElem?_eq_some_iff.1 h
  rw [List.drop_eq_getElem_cons hi]
  rfl
/-- the cells of a struct of four integers -/
theorem cells_ins {t : TypeId} {f0 f1 f2 f3 : Field} {n : Nat} {cs : List Value} {y : DataW H × List MemPlace} (hs : P.underlying t = some (.struct #[f0, f1, f2, f3])) (hC : P.cellsOf t = 4)
    (ho : f0.offset = 0 ∧ f1.offset = 1 ∧ f2.offset = 2 ∧ f3.offset = 3) (hk : P.cellsOf f0.type = 1 ∧ P.cellsOf f1.type = 1 ∧ P.cellsOf f2.type = 1 ∧ P.cellsOf f3.type = 1)
    (hi : P.underlying f0.type = some (.int .i64) ∧ P.underlying f1.type = some (.int .i64) ∧ P.underlying f2.type = some (.int .i64) ∧ P.underlying f3.type = some (.int .i64))
    (h : DataW.trod enc P w 0 (fun _ => true) true n t cs = some y) : ∃ x : Ins, cs = insC x ∧ ((Lit.int .i64 x.o).wf = true ∧ (Lit.int .i64 x.r).wf = true ∧ (Lit.int .i64 x.s).wf = true ∧ (Lit.int .i64 x.n).wf = true) := by
  obtain ⟨y0, y1, y2, y3, n', hx, hlen, h0, h1, h2, h3⟩ := trod_struct4 hs h
  rw [hC] at hlen
  match cs, hlen with
  | [c0, c1, c2, c3], _ =>
    rw [ho.1, hk.1] at h0
    rw [ho.2.1, hk.2.1] at h1
    rw [ho.2.2.1, hk.2.2.1] at h2
    rw [ho.2.2.2, hk.2.2.2] at h3
    obtain ⟨a, ha, -, wa⟩ := DataW.trod_int hi.1 h0
    obtain ⟨b, hb, -, wb⟩ := DataW.trod_int hi.2.1 h1
    obtain ⟨c, hc, -, wc⟩ := DataW.trod_int hi.2.2.1 h2
    obtain ⟨d, hd, -, wd⟩ := DataW.trod_int hi.2.2.2 h3
    simp at ha hb hc hd
    subst ha hb hc hd
    exact ⟨⟨a, b, c, d⟩, rfl, wa, wb, wc, wd⟩
theorem read_ins {t : TypeId} {f0 f1 f2 f3 : Field} {v : Value} {d : DataW H} {p : List MemPlace} (hs : P.underlying t = some (.struct #[f0, f1, f2, f3])) (hC : P.cellsOf t = 4)
    (ho : f0.offset = 0 ∧ f1.offset = 1 ∧ f2.offset = 2 ∧ f3.offset = 3) (hk : P.cellsOf f0.type = 1 ∧ P.cellsOf f1.type = 1 ∧ P.cellsOf f2.type = 1 ∧ P.cellsOf f3.type = 1)
    (hi : P.underlying f0.type = some (.int .i64) ∧ P.underlying f1.type = some (.int .i64) ∧ P.underlying f2.type = some (.int .i64) ∧ P.underlying f3.type = some (.int .i64))
    (hv : Value.okWide P w r base t v) (h : DataW.Trod enc P w 0 (fun _ => true) true t v d p) : ∃ x : Ins, v = (Value.agg #[.int .i64 x.o, .int .i64 x.r, .int .i64 x.s, .int .i64 x.n]) ∧ ((Lit.int .i64 x.o).wf = true ∧ (Lit.int .i64 x.r).wf = true ∧ (Lit.int .i64 x.s).wf = true ∧ (Lit.int .i64 x.n).wf = true) := by
  obtain ⟨cs, rfl, hsz⟩ := okWide_struct hs hv
  obtain ⟨fuel, hf⟩ := h
  obtain ⟨x, hx, hw⟩ := cells_ins hs hC ho hk hi hf
  refine ⟨x, ?_, hw⟩
  have : cs.toList = insC x := by simpa [Value.cells] using hx
  cases cs
  simp only at this
  subst this
  rfl
theorem read_code {t e : TypeId} {f0 f1 f2 f3 : Field} {n : Nat} {c : Value} {y : DataW H × List MemPlace} (ht : P.underlying t = some (.slice e)) (hs : P.underlying e = some (.struct #[f0, f1, f2, f3])) (hC : P.cellsOf e = 4)
    (ho : f0.offset = 0 ∧ f1.offset = 1 ∧ f2.offset = 2 ∧ f3.offset = 3) (hk : P.cellsOf f0.type = 1 ∧ P.cellsOf f1.type = 1 ∧ P.cellsOf f2.type = 1 ∧ P.cellsOf f3.type = 1)
    (hi : P.underlying f0.type = some (.int .i64) ∧ P.underlying f1.type = some (.int .i64) ∧ P.underlying f2.type = some (.int .i64) ∧ P.underlying f3.type = some (.int .i64))
    (h : DataW.trod enc P w 0 (fun _ => true) true n t [c] = some y) : ∃ xs : List Ins, RdA w c 4 xs.length (flc xs) := by
  haveI : Inhabited Ins := ⟨⟨0, 0, 0, 0⟩⟩
  obtain ⟨xs, h1, -⟩ := read_sl (α := Ins) insC (fun _ => True) 4 (fun _ => rfl) (by omega) ht hC (fun n cs y h => by obtain ⟨x, hx, -⟩ := cells_ins hs hC ho hk hi h; exact ⟨x, hx, trivial⟩) h
  refine ⟨xs, ?_⟩
  have e : xs.flatMap insC = flc xs := by
    unfold flc fl ints
    rw [List.map_flatMap]
    rfl
  rwa [e] at h1
theorem flat_ones {α β : Type} {f : α → β} : ∀ (l : List α), l.flatMap (fun p => [f p]) = l.map f
  | [] => rfl
  | p :: ps => by rw [List.flatMap_cons, flat_ones ps]; rfl
theorem allRd_of : ∀ {ps : List (Value × List Ins)}, (∀ p ∈ ps, RdA w p.1 4 p.2.length (flc p.2)) → AllRd RdA w (ps.map Prod.fst) (ps.map Prod.snd)
  | [], _ => trivial
  | p :: ps, h => ⟨h p (by simp), allRd_of fun q hq => h q (by simp [hq])⟩
theorem read_codes {t t1 e : TypeId} {f0 f1 f2 f3 : Field} {n : Nat} {c : Value} {y : DataW H × List MemPlace} (ht : P.underlying t = some (.slice t1)) (hC1 : P.cellsOf t1 = 1) (ht1 : P.underlying t1 = some (.slice e)) (hs : P.underlying e = some (.struct #[f0, f1, f2, f3])) (hC : P.cellsOf e = 4)
    (ho : f0.offset = 0 ∧ f1.offset = 1 ∧ f2.offset = 2 ∧ f3.offset = 3) (hk : P.cellsOf f0.type = 1 ∧ P.cellsOf f1.type = 1 ∧ P.cellsOf f2.type = 1 ∧ P.cellsOf f3.type = 1)
    (hi : P.underlying f0.type = some (.int .i64) ∧ P.underlying f1.type = some (.int .i64) ∧ P.underlying f2.type = some (.int .i64) ∧ P.underlying f3.type = some (.int .i64))
    (h : DataW.trod enc P w 0 (fun _ => true) true n t [c] = some y) : ∃ xss : List (List Ins), RdASS w c xss := by
  haveI : Inhabited (Value × List Ins) := ⟨(.slice none 0 0, [])⟩
  obtain ⟨ps, h1, h2⟩ := read_sl (α := Value × List Ins) (fun p => [p.1]) (fun p => RdA w p.1 4 p.2.length (flc p.2)) 1 (fun _ => rfl) (by omega) ht hC1 (fun n cs y h => by
    obtain ⟨n', h'⟩ : ∃ n', n = n' := ⟨n, rfl⟩
    rcases Deep.open_slice ht1 h with ⟨h0, _⟩ | ⟨a, len, cap, m, n', D, Pl, h0, _⟩
    all_goals
      subst h0
      obtain ⟨xs, hxs⟩ := read_code ht1 hs hC ho hk hi h
      exact ⟨(_, xs), rfl, hxs⟩) h
  refine ⟨ps.map Prod.snd, ps.map Prod.fst, ?_, allRd_of h2⟩
  rw [flat_ones] at h1
  simpa using h1
theorem read_prog {t t0 t1 t2 e : TypeId} {g0 g1 f0 f1 f2 f3 : Field} {v : Value} {d : DataW H} {p : List MemPlace} (hp : P.underlying t = some (.struct #[g0, g1])) (hgo : g0.offset = 0 ∧ g1.offset = 1) (hgt : g0.type = t0 ∧ g1.type = t1) (hk0 : P.cellsOf t0 = 1 ∧ P.cellsOf t1 = 1) (hC0 : P.cellsOf t = 2) (ht0 : P.underlying t0 = some (.int .i64))
    (ht1 : P.underlying t1 = some (.slice t2)) (hC1 : P.cellsOf t2 = 1) (ht2 : P.underlying t2 = some (.slice e)) (hs : P.underlying e = some (.struct #[f0, f1, f2, f3])) (hC : P.cellsOf e = 4)
    (ho : f0.offset = 0 ∧ f1.offset = 1 ∧ f2.offset = 2 ∧ f3.offset = 3) (hk : P.cellsOf f0.type = 1 ∧ P.cellsOf f1.type = 1 ∧ P.cellsOf f2.type = 1 ∧ P.cellsOf f3.type = 1)
    (hi : P.underlying f0.type = some (.int .i64) ∧ P.underlying f1.type = some (.int .i64) ∧ P.underlying f2.type = some (.int .i64) ∧ P.underlying f3.type = some (.int .i64))
    (hv : Value.okWide P w r base t v) (h : DataW.Trod enc P w 0 (fun _ => true) true t v d p) : ∃ (c : Value) (p : Pr), v = .agg #[.int .i64 p.c, c] ∧ RdASS w c p.x := by
  obtain ⟨cs, rfl, hsz⟩ := okWide_struct hp hv
  obtain ⟨l⟩ := cs
  match l, hsz.trans hC0 with
  | [c0, c1], _ =>
    obtain ⟨fuel, hf⟩ := h
    obtain ⟨y0, y1, n, _, _, hy0, hy1⟩ := trod_struct2 hp hf
    rw [hgo.1, hgt.1, hk0.1] at hy0
    rw [hgo.2, hgt.2, hk0.2] at hy1
    obtain ⟨a, ha, -, -⟩ := DataW.trod_int ht0 hy0
    obtain ⟨xss, hx⟩ := read_codes ht1 hC1 ht2 hs hC ho hk hi (by simpa [Value.cells] using hy1)
    simp [Value.cells] at ha
    subst ha
    exact ⟨c1, ⟨a, xss⟩, rfl, hx⟩
end
end Go.Proofs.YtiflooopfpcelaaGreat

/- The reading of arguments that are slices of structs of two integers. -/
namespace Go.Proofs.YtiflooopfpcelaaGreat
set_option maxRecDepth 20000
set_option linter.unusedSimpArgs false
set_option linter.unusedVariables false
open Go.RowKit Go.WideShapes Go.ChangeShapes Go.ChangeAt Go.Joins
section
variable {H : Type} {enc : TypeId × Value → H} {P : Program} {w : World} {base : Nat} {r : Reach}
theorem cells_p2 {t : TypeId} {f0 f1 : Field} {n : Nat} {cs : List Value} {y : DataW H × List MemPlace} (hs : P.underlying t = some (.struct #[f0, f1])) (hC : P.cellsOf t = 2)
    (ho : f0.offset = 0 ∧ f1.offset = 1) (hk : P.cellsOf f0.type = 1 ∧ P.cellsOf f1.type = 1)
    (hi : P.underlying f0.type = some (.int .i64) ∧ P.underlying f1.type = some (.int .i64))
    (h : DataW.trod enc P w 0 (fun _ => true) true n t cs = some y) : ∃ x : P2, cs = p2C x ∧ ((Lit.int .i64 x.a).wf = true ∧ (Lit.int .i64 x.b).wf = true) := by
  obtain ⟨y0, y1, n', hx, hlen, h0, h1⟩ := trod_struct2 hs h
  rw [hC] at hlen
  match cs, hlen with
  | [c0, c1], _ =>
    rw [ho.1, hk.1] at h0
    rw [ho.2, hk.2] at h1
    obtain ⟨a, ha, -, wa⟩ := DataW.trod_int hi.1 h0
    obtain ⟨b, hb, -, wb⟩ := DataW.trod_int hi.2 h1
    simp at ha hb
    subst ha hb
    exact ⟨⟨a, b⟩, rfl, wa, wb⟩
theorem flat_p2 (xs : List P2) : xs.flatMap p2C = flc2 xs := by
  unfold flc2 fl2 ints
  rw [List.map_flatMap]
  rfl
/-- a struct of two 64-bit integers -/
def P2R (x : P2) : Prop := (Lit.int .i64 x.a).wf = true ∧ (Lit.int .i64 x.b).wf = true
theorem read_p2s {t e : TypeId} {f0 f1 : Field} {n : Nat} {c : Value} {y : DataW H × List MemPlace} (ht : P.underlying t = some (.slice e)) (hs : P.underlying e = some (.struct #[f0, f1])) (hC : P.cellsOf e = 2)
    (ho : f0.offset = 0 ∧ f1.offset = 1) (hk : P.cellsOf f0.type = 1 ∧ P.cellsOf f1.type = 1)
    (hi : P.underlying f0.type = some (.int .i64) ∧ P.underlying f1.type = some (.int .i64))
    (h : DataW.trod enc P w 0 (fun _ => true) true n t [c] = some y) : ∃ xs : List P2, RdA w c 2 xs.length (flc2 xs) ∧ ∀ x ∈ xs, P2R x := by
  haveI : Inhabited P2 := ⟨⟨0, 0⟩⟩
  obtain ⟨xs, h1, h2⟩ := read_sl (α := P2) p2C P2R 2 (fun _ => rfl) (by omega) ht hC (fun n cs y h => by obtain ⟨x, hx, h1, h2⟩ := cells_p2 hs hC ho hk hi h; exact ⟨x, hx, h1, h2⟩) h
  rw [flat_p2] at h1
  exact ⟨xs, h1, h2⟩
end
end Go.Proofs.YtiflooopfpcelaaGreat

/- Contracts of the laws' helpers over moves and lists of moves. Condition: the size that the law bounds. -/
namespace Go.Proofs.YtiflooopfpcelaaGreat
set_option maxRecDepth 20000
set_option linter.unusedSimpArgs false
set_option linter.unusedVariables false
open Go.ChangeShapes Go.WideShapes Go.ChangeAt Go.RowKit
def mvC (m : Mv) : List Value := [.int .i64 m.t, .bool m.d]
def mvCs (ms : List Mv) : List Value := ms.flatMap mvC
theorem mvCs_cons (m : Mv) (ms : List Mv) : mvCs (m :: ms) = mvC m ++ mvCs ms := by simp [mvCs]
theorem mvCs_append (ms ns : List Mv) : mvCs (ms ++ ns) = mvCs ms ++ mvCs ns := by simp [mvCs]
theorem mvCs_one (m : Mv) : mvCs [m] = mvC m := by simp [mvCs]
theorem mvCs_len : ∀ (ms : List Mv), (mvCs ms).length = ms.length * 2
  | [] => rfl
  | m :: ms => by rw [mvCs_cons, List.length_append, mvCs_len ms]; simp [mvC]; omega
theorem mvCs_at : ∀ {xs : List Mv} {k : Nat} {x : Mv}, xs[k]? = some x → ∀ j < 2, (mvCs xs)[k * 2 + j]? = (mvC x)[j]?
  | [], k, x, h, j, hj => by simp at h
  | i :: xs, 0, x, h, j, hj => by
    simp only [List.getElem?_cons_zero, Option.some.injEq] at h
    subst h
    rw [mvCs_cons, List.getElem?_append_left (by simp [mvC]; omega)]
    simp
  | i :: xs, k + 1, x, h, j, hj => by
    rw [mvCs_cons, List.getElem?_append_right (by simp [mvC]; omega)]
    have e : (k + 1) * 2 + j - (mvC i).length = k * 2 + j := by simp [mvC]; omega
    rw [e]
    exact mvCs_at (by simpa using h) j hj
theorem mv_at {w wr : World} {b o k : Nat} {xs : List Mv} (hc : ∀ j u, (mvCs xs)[j]? = some u → w.cell? ⟨b, o + j, none⟩ = some u) (h : k < xs.length) {B : Nat} (hB : Below B w wr) (hb : b < B) :
    ∃ x, Hid (xs[k]? = some x) ∧ wr.cell? ⟨b, o + k * 2, none⟩ = some (.int .i64 x.t) ∧ wr.cell? ⟨b, o + k * 2 + 1, none⟩ = some (.bool x.d) := by
  have hx : xs[k]? = some xs[k] := List.getElem?_eq_getElem h
  have hh : ∀ j u, (mvCs xs)[j]? = some u → wr.cell? ⟨b, o + j, none⟩ = some u := fun j u hu => (hB.cell (p := ⟨b, o + j, none⟩) hb).trans (hc j u hu)
  exact ⟨xs[k], Lib.hid hx, hh (k * 2 + 0) _ (mvCs_at hx 0 (by omega)), hh (k * 2 + 1) _ (mvCs_at hx 1 (by omega))⟩
theorem mv_atA {w wr : World} {ad : Addr} {k : Nat} {xs : List Mv} (hc : ∀ j u, (mvCs xs)[j]? = some u → w.cell? (ad.add j) = some u) (h : k < xs.length) {B : Nat} (hB : Below B w wr) (hb : ad.block < B) :
    ∃ x, Hid (xs[k]? = some x) ∧ wr.cell? (ad.add (k * 2)) = some (.int .i64 x.t) ∧ wr.cell? ⟨(ad.add (k * 2)).block, (ad.add (k * 2)).off + 1, none⟩ = some (.bool x.d) := by
  have hx : xs[k]? = some xs[k] := List.getElem?_eq_getElem h
  have hh : ∀ j u, (mvCs xs)[j]? = some u → wr.cell? (ad.add j) = some u := fun j u hu => (hB.cell (p := ad.add j) (by rw [add_block]; exact hb)).trans (hc j u hu)
  refine ⟨xs[k], Lib.hid hx, hh (k * 2 + 0) _ (mvCs_at hx 0 (by omega)), ?_⟩
  rw [← add_more ad _ 1 (by omega)]
  exact hh (k * 2 + 1) _ (mvCs_at hx 1 (by omega))
def zMv : Nat → List Value
  | 0 => []
  | n + 1 => .int .i64 0 :: .bool false :: zMv n
theorem zMv_len : ∀ n, (zMv n).length = n * 2
  | 0 => rfl
  | n + 1 => by simp only [zMv, List.length_cons, zMv_len n]; omega
theorem zMv_at : ∀ (n j : Nat), j < n * 2 → (zMv n)[j]? = some (#[Value.int .i64 0, .bool false][j % 2]!)
  | 0, j, h => by omega
  | n + 1, 0, h => rfl
  | n + 1, 1, h => rfl
  | n + 1, j + 2, h => by
    rw [show (j + 2) % 2 = j % 2 from by omega]
    exact zMv_at n j (by omega)
theorem zMv_made (n : Nat) : (madeCells #[.int .i64 0, .bool false] (n * 2)).toList = zMv n := by
  apply List.ext_getElem?
  intro j
  by_cases hj : j < n * 2
  · rw [zMv_at n j hj]
    simp only [madeCells, Array.toList_map, List.getElem?_map, Array.toList_range, List.getElem?_range hj, Option.map_some]
    rfl
  · rw [List.getElem?_eq_none (l := zMv n) (by rw [zMv_len]; omega)]
    simp [madeCells, hj]
def mvPart (ms : List Mv) (k : Nat) : List Value := mvCs (ms.take k) ++ zMv (ms.length - k)
theorem mvPart_at {ms : List Mv} {k : Nat} (h : k < ms.length) : (mvPart ms k)[k * 2]? = some (.int .i64 0) ∧ (mvPart ms k)[k * 2 + 1]? = some (.bool false) := by
  have hc : (mvCs (ms.take k)).length = k * 2 := by rw [mvCs_len, List.length_take]; omega
  unfold mvPart
  rw [show ms.length - k = (ms.length - (k + 1)) + 1 from by omega, zMv]
  refine ⟨?_, ?_⟩
  all_goals
    rw [List.getElem?_append_right (by omega), hc]
    simp
theorem mvPart_set {ms : List Mv} {k : Nat} {t : Mv} (h : ms[k]? = some t) : ((mvPart ms k).set (k * 2) (.int .i64 t.t)).set (k * 2 + 1) (.bool t.d) = mvPart ms (k + 1) := by
  have hk := (List.getElem?_eq_some_iff.1 h).1
  have hc : (mvCs (ms.take k)).length = k * 2 := by rw [mvCs_len, List.length_take]; omega
  unfold mvPart
  rw [show ms.length - k = (ms.length - (k + 1)) + 1 from by omega, zMv, set2 _ _ _ _ hc, List.take_add_one, h, Option.toList_some, mvCs_append, mvCs_one, List.append_assoc]
  rfl
theorem mvPart_all (ms : List Mv) : mvPart ms ms.length = mvCs ms := by simp [mvPart, zMv]
def mkMv (j : Nat) (m : Int) : Mv := ⟨m + (j * 2 : Nat), (m + (j * 2 + 1 : Nat)) % 3 == 0⟩
def mkMvs (n : Nat) (m : Int) : List Mv := (List.range n).map fun j => mkMv j m
theorem mkMvs_len (n : Nat) (m : Int) : (mkMvs n m).length = n := by simp [mkMvs]
def mvAt (ms : List Mv) (m : Int) (k : Nat) : List Mv := mkMvs k m ++ ms.drop k
theorem mvAt_len {ms : List Mv} {m : Int} {k : Nat} (h : k ≤ ms.length) : (mvAt ms m k).length = ms.length := by
  simp only [mvAt, List.length_append, mkMvs_len, List.length_drop]
  omega
theorem mvAt_at {ms : List Mv} {m : Int} {k : Nat} {t : Mv} (h : ms[k]? = some t) : (mvAt ms m k)[k]? = some t := by
  obtain ⟨hk, rfl⟩ := List.getElem?_eq_some_iff.1 h
  unfold mvAt
  rw [List.getElem?_append_right (by rw [mkMvs_len]; omega), mkMvs_len, Nat.sub_self]
  simp
theorem mvCs_set : ∀ {xs : List Mv} {k : Nat} {x : Mv} (y : Mv), xs[k]? = some x → ((mvCs xs).set (k * 2) (.int .i64 y.t)).set (k * 2 + 1) (.bool y.d) = mvCs (xs.set k y)
  | [], k, x, y, h => by simp at h
  | i :: xs, 0, x, y, h => by simp [mvCs, mvC]
  | i :: xs, k + 1, x, y, h => by
    have := mvCs_set (xs := xs) (k := k) y (by simpa using h)
    rw [List.set_cons_succ, mvCs_cons, mvCs_cons, ← this, List.set_append, if_neg (by simp [mvC]; omega), List.set_append, if_neg (by simp [mvC]; omega)]
    have e1 : (k + 1) * 2 - (mvC i).length = k * 2 := by simp [mvC]; omega
    have e2 : (k + 1) * 2 + 1 - (mvC i).length = k * 2 + 1 := by simp [mvC]; omega
    rw [e1, e2]
theorem mvAt_next {ms : List Mv} {m : Int} {k : Nat} {t : Mv} (h : ms[k]? = some t) : (mvAt ms m k).set k (mkMv k m) = mvAt ms m (k + 1) := by
  obtain ⟨hk, rfl⟩ := List.getElem?_eq_some_iff.1 h
  unfold mvAt
  rw [List.set_append, if_neg (by rw [mkMvs_len]; omega), mkMvs_len, Nat.sub_self, List.drop_eq_getElem_cons hk, List.set_cons_zero]
  simp only [mkMvs, List.range_succ, List.map_append, List.map_cons, List.map_nil, List.append_assoc, List.cons_append, List.nil_append]
theorem infoMv : (Tryz.prog.info? 46).map (fun i => (i.zero, i.size, i.bytes)) = some (some (.agg #[.int .i64 0, .bool false]), 2, 16) := by kernel_rfl
set_option maxHeartbeats 400000 in
theorem toMove (i : Mv) (w : World) :
    Calls Tryz.prog 12 #[.agg #[.int .i64 i.t, .bool i.d]] w fun e w' => e = .returned (.agg #[.int .i64 i.t, .bool i.d]) ∧ Below w.heap.size w w' := by
  go_enter Tryz.func12, Tryz.ntmps12
  go_wp2_with fail
  exact bodyPost_ret (v := .agg #[.int .i64 i.t, .bool i.d]) (by simp [results, Tryz.results12, go_sem]) rfl ⟨rfl, (((Below.refl _ _).alloc (Nat.le_refl _) _).alloc (by simp) _).alloc (by simp; omega) _⟩
set_option maxHeartbeats 400000 in
theorem szMoveS (v : Value) (n : Nat) (cs : List Value) (left : Int) (w : World) (h : RdA w v 2 n cs) (hl0 : -1 ≤ left) (hl : left ≤ 1048576) :
    Calls Tryz.prog 21 #[v, .int .i64 left] w fun e w' => e = .returned (.int .i64 (szF n left)) ∧ w = w' := by
  obtain ⟨A, c, rfl, -, hnc, hc, -⟩ := h
  unfold maxLen at hc
  by_cases hx : left - n < 0
  · go_enter Tryz.func21, Tryz.ntmps21
    go_wp2
    go_ret
    exact ⟨ret_int (by unfold szF; rw [if_pos hx]), rfl⟩
  · go_enter Tryz.func21, Tryz.ntmps21
    go_wp2
    go_ret
    exact ⟨ret_int (by unfold szF; rw [if_neg (by omega)]), rfl⟩
set_option maxHeartbeats 800000 in
theorem toMoveS (v : Value) (xs : List Mv) (w : World) (h : RdA w v 2 xs.length (mvCs xs)) (hsz : xs.length ≤ 1048576) :
    Calls Tryz.prog 23 #[v] w fun e w' => ∃ v' bs, e = .returned v' ∧ Own w' v' 2 xs.length (mvCs xs) bs ∧ (∀ b ∈ bs, w.heap.size ≤ b) ∧ Below w.heap.size w w' := by
  obtain ⟨A, c, rfl, -, hnc, hc, hr⟩ := h
  unfold maxLen at hc
  obtain ⟨i, hi, hz0, hz1, hz2⟩ := info_parts infoMv
  go_enter Tryz.func23, Tryz.ntmps23
  go_wp2_with (at_make; refine wpList_make_full _ rfl _ _ 59 rfl w.heap.size 46 i (.agg #[.int .i64 0, .bool false]) 2 Tryz.underlying59 hi hz0 hz1 _ _ _ _ xs.length rfl rfl rfl rfl (by rw [hz2]; omega) (by unfold maxLen; omega) (Nat.le_refl _) ?_)
  intro w1 hown hg1
  rw [zMv_made] at hown
  have hb1 : Below w.heap.size w w1 := (Below.refl _ _).grown hg1 (Nat.le_refl _) (by simp)
  go_wp2_with fail
  go_loopw [4] (fun i wr => ∃ k : Nat, k ≤ xs.length ∧ i = .int .i64 k ∧ wr.ownsRow w.heap.size 46 2 (.slice (some ⟨w.heap.size, 0, none⟩) xs.length xs.length) xs.length (mvPart xs k) ∧ Below w.heap.size w wr) (fun i _ => xs.length - (intOf i).toNat)
  case atStart => exact ⟨0, Nat.zero_le _, rfl, hown, hb1⟩
  case round =>
    obtain ⟨k, hk, rfl, hO, hB⟩ := hrel
    clear hown hb1 hg1
    by_cases hlt : k < xs.length
    · obtain ⟨ad, rfl, hb, hcell⟩ := hr (by omega)
      obtain ⟨x, hxk, hx0, hx1⟩ := mv_atA hcell hlt hB hb
      clear hcell hr
      go_wp2_with fail
      refine (toMove x _).mono ?_
      rintro e w2 ⟨rfl, hb2⟩
      have hO2 := ownsRow_below hO hb2
      have hB2 := hB.trans (hb2.mono hB.size)
      obtain ⟨p0, p1⟩ := mvPart_at hlt
      have hc0 := (hO2.cellAt (k * 2) (by omega)).trans p0
      have hc1 := (hO2.cellAt (k * 2 + 1) (by omega)).trans p1
      have hf0 := hO2.frozenAt (k * 2)
      have hf1 := hO2.frozenAt (k * 2 + 1)
      clear p0 p1
      go_wp2_with fail
      exact ⟨⟨k + 1, by omega, by go_num, (mvPart_set hxk.out) ▸ owns_set2 hO2 (k * 2) (k * 2 + 1) (.int .i64 x.t) (.bool x.d), below_set2 hB2 (Nat.le_refl _) _ _ _ _⟩, by simp [intOf]; omega⟩
    · go_wp2_with fail
      go_ret
      obtain rfl : k = xs.length := by omega
      rw [mvPart_all] at hO
      obtain ⟨bs, h1, h2⟩ := Own.of_owns hO
      exact ⟨_, bs, rfl, h1, h2, hB⟩
set_option maxHeartbeats 800000 in
theorem eqMove (x y : Mv) (w : World) :
    Calls Tryz.prog 62 #[.agg #[.int .i64 x.t, .bool x.d], .agg #[.int .i64 y.t, .bool y.d]] w fun e w' => e = .returned (.bool (decide (x = y))) ∧ Below w.heap.size w w' := by
  obtain ⟨a, b⟩ := x
  obtain ⟨a', b'⟩ := y
  have hB := ((Below.refl w.heap.size w).alloc (Nat.le_refl _) (.cells #[.int .i64 a, .bool b] 46)).alloc (by simp) (.cells #[.int .i64 a', .bool b'] 46)
  have HB := Lib.hid hB
  clear hB
  by_cases h1 : a = a'
  · have HD : Hid (decide (Mv.mk a b = Mv.mk a' b') = (b == b')) := Lib.hid (by subst h1; cases b <;> cases b' <;> simp)
    subst h1
    cases b <;> cases b'
    all_goals
      go_enter Tryz.func62, Tryz.ntmps62
      go_wp2_with fail
      go_ret
      exact ⟨ret_bool HD.out.symm, HB.out⟩
  · have e : (a != a') = true := by simp [h1]
    have HD : Hid (decide (Mv.mk a b = Mv.mk a' b') = false) := Lib.hid (by simp [h1])
    clear h1
    go_enter Tryz.func62, Tryz.ntmps62
    go_wp2_with fail
    go_ret
    exact ⟨ret_bool HD.out.symm, HB.out⟩
set_option maxHeartbeats 1600000 in
theorem eqMoveS (v u : Value) (xs ys : List Mv) (w : World) (h : Rd w v 2 xs.length (mvCs xs)) (h' : Rd w u 2 ys.length (mvCs ys)) :
    Calls Tryz.prog 25 #[v, u] w fun e w' => e = .returned (.bool (decide (xs = ys))) ∧ Below w.heap.size w w' := by
  obtain ⟨A, c, rfl, -, hnc, hc, hr⟩ := h
  obtain ⟨A', c', rfl, -, hnc', hc', hr'⟩ := h'
  unfold maxLen at hc hc'
  by_cases hlen : xs.length = ys.length
  · have hne : ((xs.length : Int) != (ys.length : Int)) = false := by simp [hlen]
    have hlen' : xs.length ≤ ys.length ∧ ys.length ≤ xs.length := by omega
    clear hlen
    go_enter Tryz.func25, Tryz.ntmps25
    go_wp2_with fail
    go_loopw [5] (fun i wr => ∃ k : Nat, k ≤ xs.length ∧ i = .int .i64 k ∧ Hid (xs.take k = ys.take k) ∧ Below w.heap.size w wr) (fun i _ => xs.length - (intOf i).toNat)
    case atStart => exact ⟨0, Nat.zero_le _, rfl, Lib.hid (by simp), Below.refl _ _⟩
    case round =>
      obtain ⟨k, hk, rfl, HT, hB⟩ := hrel
      by_cases hlt : k < xs.length
      · obtain ⟨b, o, rfl, hb, hcell⟩ := hr (by omega)
        obtain ⟨b', o', rfl, hb', hcell'⟩ := hr' (by omega)
        obtain ⟨x, hxk, hx0, hx1⟩ := mv_at hcell hlt hB hb
        obtain ⟨y, hyk, hy0, hy1⟩ := mv_at (k := k) hcell' (by omega) hB hb'
        have hlt2 : k < ys.length := by omega
        have hlt3 : ((k : Int) < ys.length) := by omega
        have lb : b < wr.heap.size := Nat.lt_of_lt_of_le hb hB.size
        have lb' : b' < wr.heap.size := Nat.lt_of_lt_of_le hb' hB.size
        clear hcell hcell' hr hr'
        go_wp2_with fail
        have HS : Hid (∀ W : World, Below wr.heap.size wr W → Below wr.heap.size wr W ∧ W.cell? ⟨b, o + k * 2, none⟩ = some (.int .i64 x.t) ∧ W.cell? ⟨b, o + k * 2 + 1, none⟩ = some (.bool x.d) ∧
          W.cell? ⟨b', o' + k * 2, none⟩ = some (.int .i64 y.t) ∧ W.cell? ⟨b', o' + k * 2 + 1, none⟩ = some (.bool y.d)) :=
          Lib.hid fun W hW => ⟨hW, (hW.cell (p := ⟨b, o + k * 2, none⟩) lb).trans hx0, (hW.cell (p := ⟨b, o + k * 2 + 1, none⟩) lb).trans hx1,
            (hW.cell (p := ⟨b', o' + k * 2, none⟩) lb').trans hy0, (hW.cell (p := ⟨b', o' + k * 2 + 1, none⟩) lb').trans hy1⟩
        have HB := Lib.hid hB
        clear hB
        go_region_held3 (fun W => Below wr.heap.size wr W ∧ W.cell? ⟨b, o + k * 2, none⟩ = some (.int .i64 x.t) ∧ W.cell? ⟨b, o + k * 2 + 1, none⟩ = some (.bool x.d) ∧
          W.cell? ⟨b', o' + k * 2, none⟩ = some (.int .i64 y.t) ∧ W.cell? ⟨b', o' + k * 2 + 1, none⟩ = some (.bool y.d)) (first | (exact HS.out _ (Below.refl _ _).drew) | (exact HS.out _ (by assumption)))
          (first
            | (go_at_call 62; have hS := ‹Below wr.heap.size wr _ ∧ _›.1; refine (eqMove x y _).mono ?_; rintro e w9 ⟨rfl, hb9⟩; have hS2 := hS.trans (hb9.mono hS.size); clear hS))
        have hS := ‹Below wr.heap.size wr _ ∧ _›.1
        clear HS
        have hBn := HB.out.trans (hS.mono HB.out.size)
        clear HB hx0 hx1 hy0 hy1 hb9
        have HBn := Lib.hid hBn
        clear hBn hS
        cases hd : decide (x = y)
        · have hn : decide (xs = ys) = false := by
            rw [decide_eq_false_iff_not]
            rintro rfl
            have := hxk.out.symm.trans hyk.out
            injection this with this
            simp [this] at hd
          have HN := Lib.hid hn
          clear hn hd
          go_wp2_with fail
          go_ret
          exact ⟨ret_bool HN.out.symm, HBn.out⟩
        · have e : x = y := by simpa using hd
          have HE := Lib.hid e
          clear e hd
          go_wp2_with fail
          exact ⟨⟨k + 1, by omega, by go_num, Lib.hid (take_snoc_eq HT.out (hxk.out.trans (by rw [hyk.out, HE.out]))), HBn.out⟩, by simp [intOf]; omega⟩
      · go_wp2_with fail
        go_ret
        refine ⟨ret_bool ?_, hB⟩
        have h1 := HT.out
        rw [List.take_of_length_le (by omega), List.take_of_length_le (by omega)] at h1
        simp [h1]
  · have hne : ((xs.length : Int) != (ys.length : Int)) = true := by simp; omega
    go_enter Tryz.func25, Tryz.ntmps25
    go_wp2_with fail
    go_ret
    exact ⟨ret_bool (by simp; intro e; exact hlen (by rw [e])), Below.refl _ _⟩
set_option maxHeartbeats 1600000 in
theorem markMoveS (v : Value) (ms : List Mv) (bs : List Nat) (m : Int) (w : World) (h : Own w v 2 ms.length (mvCs ms) bs) (hsz : ms.length ≤ 16777216) (hm0 : 0 ≤ m) (hm : m ≤ 1090921693184) :
    Calls Tryz.prog 26 #[v, .int .i64 m] w fun e w' => e = .returned (.int .i64 (m + ms.length * 2)) ∧ Own w' v 2 ms.length (mvCs (mkMvs ms.length m)) bs ∧ Only bs w w' := by
  obtain ⟨A, c, rfl, hl, hnc, hc, hr⟩ := h
  unfold maxLen at hc
  rcases hr with ⟨h0, rfl⟩ | ⟨hpos, b, o, rfl, rfl, hb, hat⟩
  · have hx : ms = [] := List.eq_nil_of_length_eq_zero h0
    subst hx
    go_enter Tryz.func26, Tryz.ntmps26
    go_wp2
    go_loop [1, 5] (fun mm i => i = .int .i64 0 ∧ mm = .int .i64 m) (fun _ _ => 0)
    case atStart => exact ⟨rfl, rfl⟩
    case round =>
      obtain ⟨rfl, rfl⟩ := hrel
      go_wp2
      go_ret
      exact ⟨ret_int (by simp), ⟨A, c, rfl, by simp [mvCs, mkMvs], hnc, hc, .inl ⟨rfl, rfl⟩⟩, Only.refl _ _⟩
  · go_enter Tryz.func26, Tryz.ntmps26
    go_wp2
    go_loopw [1, 5] (fun mm i wr => ∃ k : Nat, k ≤ ms.length ∧ i = .int .i64 k ∧ mm = .int .i64 (m + k * 2) ∧ At wr b o (mvCs (mvAt ms m k)) ∧ Only [b] w wr) (fun _ i _ => ms.length - (intOf i).toNat)
    case atStart => exact ⟨0, Nat.zero_le _, rfl, by simp, by simpa [mvAt, mkMvs] using hat, Only.refl _ _⟩
    case round =>
      obtain ⟨k, hk, rfl, rfl, hA, hO⟩ := hrel
      clear hat
      by_cases hlt : k < ms.length
      · have hx : ms[k]? = some ms[k] := List.getElem?_eq_getElem hlt
        generalize ms[k] = t at hx
        have ht := mvAt_at (m := m) hx
        obtain ⟨hc0, hf0⟩ := hA (k * 2 + 0) _ (mvCs_at ht 0 (by omega))
        obtain ⟨hc1, hf1⟩ := hA (k * 2 + 1) _ (mvCs_at ht 1 (by omega))
        rw [Nat.add_zero] at hc0 hf0
        simp only [← Nat.add_assoc] at hc1 hf1
        have hN : At ((wr.setCell ⟨b, o + k * 2, none⟩ (.int .i64 (m + k * 2))).setCell ⟨b, o + k * 2 + 1, none⟩ (.bool ((m + (k : Int) * 2 + 1) % 3 == 0))) b o (mvCs (mvAt ms m (k + 1))) := by
          rw [← mvAt_next hx, ← mvCs_set (mkMv k m) ht, show (mkMv k m).t = m + k * 2 by show m + ((k * 2 : Nat) : Int) = _; omega, show (mkMv k m).d = ((m + (k : Int) * 2 + 1) % 3 == 0) by
            show ((m + ((k * 2 + 1 : Nat) : Int)) % 3 == 0) = _
            rw [show m + ((k * 2 + 1 : Nat) : Int) = m + (k : Int) * 2 + 1 from by omega]]
          exact (hA.set_ (k * 2) _).set_ (k * 2 + 1) _
        have hOn := (hO.trans (Only.setCell (b := b) (i := o + k * 2) _ (.int .i64 (m + k * 2)))).trans (Only.setCell (b := b) (i := o + k * 2 + 1) _ (.bool ((m + (k : Int) * 2 + 1) % 3 == 0)))
        have HN := Lib.hid hN
        have HO := Lib.hid hOn
        clear hx ht hA hO hN hOn
        go_wp2_with fail
        refine ⟨⟨k + 1, by omega, by go_num, by go_num, HN.out, HO.out⟩, by simp [intOf]; omega⟩
      · obtain rfl : k = ms.length := by omega
        go_wp2_with fail
        go_ret
        refine ⟨rfl, ⟨_, c, rfl, by rw [mvCs_len, mkMvs_len], hnc, hc, .inr ⟨hpos, b, o, rfl, rfl, Nat.lt_of_lt_of_le hb hO.size, ?_⟩⟩, hO⟩
        simpa [mvAt] using hA
end Go.Proofs.YtiflooopfpcelaaGreat

/- The reading of arguments that are machines, moves, lists of moves. -/
namespace Go.Proofs.YtiflooopfpcelaaGreat
set_option maxRecDepth 20000
set_option linter.unusedSimpArgs false
set_option linter.unusedVariables false
open Go.RowKit Go.WideShapes Go.ChangeShapes Go.ChangeAt Go.Joins
section
variable {H : Type} {enc : TypeId × Value → H} {P : Program} {w : World} {base : Nat} {r : Reach}
/-- what the reading of a thread asks of its type: a counter, values, a buffer -/
structure ThType (P : Program) (t : TypeId) : Prop where
  ex : ∃ (f0 f1 f2 : Field) (e2 : TypeId) (g0 g1 : Field) (e1 : TypeId), P.underlying t = some (.struct #[f0, f1, f2]) ∧ P.cellsOf t = 3 ∧ (f0.offset = 0 ∧ f1.offset = 1 ∧ f2.offset = 2) ∧ (P.cellsOf f0.type = 1 ∧ P.cellsOf f1.type = 1 ∧ P.cellsOf f2.type = 1) ∧
    P.underlying f0.type = some (.int .i64) ∧ P.underlying f1.type = some (.slice e1) ∧ P.underlying e1 = some (.int .i64) ∧ P.cellsOf e1 = 1 ∧
    P.underlying f2.type = some (.slice e2) ∧ P.underlying e2 = some (.struct #[g0, g1]) ∧ P.cellsOf e2 = 2 ∧ (g0.offset = 0 ∧ g1.offset = 1) ∧ (P.cellsOf g0.type = 1 ∧ P.cellsOf g1.type = 1) ∧ (P.underlying g0.type = some (.int .i64) ∧ P.underlying g1.type = some (.int .i64))
/-- every integer of the thread is a 64-bit one -/
def ThR (t : Th) : Prop := (Lit.int .i64 t.pc).wf = true ∧ (∀ x ∈ t.v, (Lit.int .i64 x).wf = true) ∧ ∀ x ∈ t.f, P2R x
theorem cells_th {t : TypeId} (hT : ThType P t) {n : Nat} {cs : List Value} {y : DataW H × List MemPlace} (h : DataW.trod enc P w 0 (fun _ => true) true n t cs = some y) :
    ∃ q : Th × (Value × Value), cs = thC q.1 q.2 ∧ (RdA w q.2.1 1 q.1.v.length (ints q.1.v) ∧ RdA w q.2.2 2 q.1.f.length (flc2 q.1.f)) ∧ ThR q.1 := by
  obtain ⟨f0, f1, f2, e2, g0, g1, e1, hs, hC, ho, hk, h0, h1, he1, hc1, h2, he2, hc2, hgo, hgk, hgi⟩ := hT.ex
  obtain ⟨y0, y1, y2, n', hx, hlen, a0, a1, a2⟩ := Deep.trod_struct3 hs h
  rw [hC] at hlen
  match cs, hlen with
  | [c0, c1, c2], _ =>
    rw [ho.1, hk.1] at a0
    rw [ho.2.1, hk.2.1] at a1
    rw [ho.2.2, hk.2.2] at a2
    obtain ⟨a, ha, -, wa⟩ := DataW.trod_int h0 a0
    obtain ⟨xs, hxs, wxs⟩ := read_ints h1 he1 hc1 (c := c1) (by simpa using a1)
    obtain ⟨zs, hzs, wzs⟩ := read_p2s h2 he2 hc2 hgo hgk hgi (c := c2) (by simpa using a2)
    simp at ha
    subst ha
    exact ⟨(⟨a, xs, zs⟩, (c1, c2)), rfl, ⟨hxs, hzs⟩, wa, wxs, wzs⟩
theorem thCs_of : ∀ (qs : List (Th × (Value × Value))), qs.flatMap (fun q => thC q.1 q.2) = thCs (qs.map Prod.fst) (qs.map Prod.snd)
  | [] => rfl
  | q :: qs => by rw [List.flatMap_cons, thCs_of qs]; rfl
theorem read_ths {t e : TypeId} {n : Nat} {c : Value} {y : DataW H × List MemPlace} (ht : P.underlying t = some (.slice e)) (hT : ThType P e) (h : DataW.trod enc P w 0 (fun _ => true) true n t [c] = some y) :
    ∃ ths : List Th, RdATS w c ths ∧ ∀ x ∈ ths, ThR x := by
  haveI : Inhabited (Th × (Value × Value)) := ⟨(⟨0, [], []⟩, (.slice none 0 0, .slice none 0 0))⟩
  obtain ⟨f0, f1, f2, e2, g0, g1, e1, hs, hC, -⟩ := hT.ex
  obtain ⟨qs, h1, h2⟩ := read_sl (α := Th × (Value × Value)) (fun q => thC q.1 q.2) (fun q => (RdA w q.2.1 1 q.1.v.length (ints q.1.v) ∧ RdA w q.2.2 2 q.1.f.length (flc2 q.1.f)) ∧ ThR q.1) 3 (fun _ => rfl) (by omega) ht hC
    (fun n cs y h => by obtain ⟨q, hq, h1, h2⟩ := cells_th hT h; exact ⟨q, hq, h1, h2⟩) h
  rw [thCs_of] at h1
  refine ⟨qs.map Prod.fst, ⟨qs.map Prod.snd, by simp, by simpa using h1, fun k t p hk hp => ?_⟩, fun x hx => ?_⟩
  · rw [List.getElem?_map] at hk hp
    cases hq : qs[k]? with
    | none => rw [hq] at hk; simp at hk
    | some q =>
      rw [hq] at hk hp
      simp only [Option.map_some, Option.some.injEq] at hk hp
      subst hk hp
      exact (h2 q (List.mem_of_getElem? hq)).1
  · obtain ⟨q, hq, rfl⟩ := List.mem_map.1 hx
    exact (h2 q hq).2
/-- every integer of the machine is a 64-bit one -/
def MaR (M : Ma) : Prop := (∀ x ∈ M.mem, (Lit.int .i64 x).wf = true) ∧ ∀ x ∈ M.ths, ThR x
theorem read_machine {t t2 e : TypeId} {f0 f1 m0 : Field} {v : Value} {d : DataW H} {p : List MemPlace} (hs : P.underlying t = some (.struct #[f0, f1])) (hC : P.cellsOf t = 2) (ho : f0.offset = 0 ∧ f1.offset = 1) (hk : P.cellsOf f0.type = 1 ∧ P.cellsOf f1.type = 1)
    (h0 : P.underlying f0.type = some (.struct #[m0])) (hm : m0.offset = 0) (hmk : P.cellsOf m0.type = 1) (hm1 : P.underlying m0.type = some (.slice e)) (he : P.underlying e = some (.int .i64)) (hec : P.cellsOf e = 1)
    (h1 : P.underlying f1.type = some (.slice t2)) (hT : ThType P t2)
    (hv : Value.okWide P w r base t v) (h : DataW.Trod enc P w 0 (fun _ => true) true t v d p) : ∃ (c u : Value) (M : Ma), v = .agg #[c, u] ∧ RdAMa w c u M ∧ MaR M := by
  obtain ⟨cs, rfl, hsz⟩ := okWide_struct hs hv
  obtain ⟨l⟩ := cs
  match l, hsz.trans hC with
  | [c0, c1], _ =>
    obtain ⟨fuel, hf⟩ := h
    obtain ⟨y0, y1, n, _, _, hy0, hy1⟩ := trod_struct2 hs hf
    rw [ho.1, hk.1] at hy0
    rw [ho.2, hk.2] at hy1
    obtain ⟨z0, n', _, _, hz⟩ := trod_struct1 h0 hy0
    rw [hm, hmk] at hz
    obtain ⟨xs, hx, wx⟩ := read_ints hm1 he hec (c := c0) (by simpa [Value.cells] using hz)
    obtain ⟨ths, hth, wth⟩ := read_ths h1 hT (c := c1) (by simpa [Value.cells] using hy1)
    exact ⟨c0, c1, ⟨xs, ths⟩, rfl, ⟨hx, hth⟩, wx, wth⟩
/-- a program that came in: its number of cells is a 64-bit integer -/
theorem read_progW {t t0 t1 t2 e : TypeId} {g0 g1 f0 f1 f2 f3 : Field} {v : Value} {d : DataW H} {p : List MemPlace} (hp : P.underlying t = some (.struct #[g0, g1])) (hgo : g0.offset = 0 ∧ g1.offset = 1) (hgt : g0.type = t0 ∧ g1.type = t1) (hk0 : P.cellsOf t0 = 1 ∧ P.cellsOf t1 = 1) (hC0 : P.cellsOf t = 2) (ht0 : P.underlying t0 = some (.int .i64))
    (ht1 : P.underlying t1 = some (.slice t2)) (hC1 : P.cellsOf t2 = 1) (ht2 : P.underlying t2 = some (.slice e)) (hs : P.underlying e = some (.struct #[f0, f1, f2, f3])) (hC : P.cellsOf e = 4)
    (ho : f0.offset = 0 ∧ f1.offset = 1 ∧ f2.offset = 2 ∧ f3.offset = 3) (hk : P.cellsOf f0.type = 1 ∧ P.cellsOf f1.type = 1 ∧ P.cellsOf f2.type = 1 ∧ P.cellsOf f3.type = 1)
    (hi : P.underlying f0.type = some (.int .i64) ∧ P.underlying f1.type = some (.int .i64) ∧ P.underlying f2.type = some (.int .i64) ∧ P.underlying f3.type = some (.int .i64))
    (hv : Value.okWide P w r base t v) (h : DataW.Trod enc P w 0 (fun _ => true) true t v d p) : ∃ (c : Value) (p : Pr), v = .agg #[.int .i64 p.c, c] ∧ RdASS w c p.x ∧ (Lit.int .i64 p.c).wf = true := by
  obtain ⟨cs, rfl, hsz⟩ := okWide_struct hp hv
  obtain ⟨l⟩ := cs
  match l, hsz.trans hC0 with
  | [c0, c1], _ =>
    obtain ⟨fuel, hf⟩ := h
    obtain ⟨y0, y1, n, _, _, hy0, hy1⟩ := trod_struct2 hp hf
    rw [hgo.1, hgt.1, hk0.1] at hy0
    rw [hgo.2, hgt.2, hk0.2] at hy1
    obtain ⟨a, ha, -, wa⟩ := DataW.trod_int ht0 hy0
    obtain ⟨xss, hx⟩ := read_codes ht1 hC1 ht2 hs hC ho hk hi (by simpa [Value.cells] using hy1)
    simp [Value.cells] at ha
    subst ha
    exact ⟨c1, ⟨a, xss⟩, rfl, hx, wa⟩
/-- a move's number is a 64-bit one -/
def MvR (m : Mv) : Prop := (Lit.int .i64 m.t).wf = true
theorem cells_mv {t : TypeId} {f0 f1 : Field} {n : Nat} {cs : List Value} {y : DataW H × List MemPlace} (hs : P.underlying t = some (.struct #[f0, f1])) (hC : P.cellsOf t = 2) (ho : f0.offset = 0 ∧ f1.offset = 1) (hk : P.cellsOf f0.type = 1 ∧ P.cellsOf f1.type = 1)
    (hi : P.underlying f0.type = some (.int .i64) ∧ P.underlying f1.type = some .bool)
    (h : DataW.trod enc P w 0 (fun _ => true) true n t cs = some y) : ∃ x : Mv, cs = mvC x ∧ MvR x := by
  obtain ⟨y0, y1, n', hx, hlen, h0, h1⟩ := trod_struct2 hs h
  rw [hC] at hlen
  match cs, hlen with
  | [c0, c1], _ =>
    rw [ho.1, hk.1] at h0
    rw [ho.2, hk.2] at h1
    obtain ⟨a, ha, -, wa⟩ := DataW.trod_int hi.1 h0
    obtain ⟨b, hb, -⟩ := DataW.trod_bool hi.2 h1
    simp at ha hb
    subst ha hb
    exact ⟨⟨a, b⟩, rfl, wa⟩
theorem read_move {t : TypeId} {f0 f1 : Field} {v : Value} {d : DataW H} {p : List MemPlace} (hs : P.underlying t = some (.struct #[f0, f1])) (hC : P.cellsOf t = 2) (ho : f0.offset = 0 ∧ f1.offset = 1) (hk : P.cellsOf f0.type = 1 ∧ P.cellsOf f1.type = 1)
    (hi : P.underlying f0.type = some (.int .i64) ∧ P.underlying f1.type = some .bool)
    (hv : Value.okWide P w r base t v) (h : DataW.Trod enc P w 0 (fun _ => true) true t v d p) : ∃ x : Mv, v = .agg #[.int .i64 x.t, .bool x.d] ∧ MvR x := by
  obtain ⟨cs, rfl, hsz⟩ := okWide_struct hs hv
  obtain ⟨fuel, hf⟩ := h
  obtain ⟨x, hx, hw⟩ := cells_mv hs hC ho hk hi hf
  refine ⟨x, ?_, hw⟩
  have : cs.toList = mvC x := by simpa [Value.cells] using hx
  cases cs
  simp only at this
  subst this
  rfl
theorem read_moves {t e : TypeId} {f0 f1 : Field} {n : Nat} {c : Value} {y : DataW H × List MemPlace} (ht : P.underlying t = some (.slice e)) (hs : P.underlying e = some (.struct #[f0, f1])) (hC : P.cellsOf e = 2) (ho : f0.offset = 0 ∧ f1.offset = 1) (hk : P.cellsOf f0.type = 1 ∧ P.cellsOf f1.type = 1)
    (hi : P.underlying f0.type = some (.int .i64) ∧ P.underlying f1.type = some .bool)
    (h : DataW.trod enc P w 0 (fun _ => true) true n t [c] = some y) : ∃ xs : List Mv, RdA w c 2 xs.length (mvCs xs) ∧ ∀ x ∈ xs, MvR x := by
  haveI : Inhabited Mv := ⟨⟨0, false⟩⟩
  obtain ⟨xs, h1, h2⟩ := read_sl (α := Mv) mvC MvR 2 (fun _ => rfl) (by omega) ht hC (fun n cs y h => cells_mv hs hC ho hk hi h) h
  exact ⟨xs, h1, h2⟩
end
theorem thTypeL : ThType Tryz.prog 115 :=
  ⟨_, _, _, 172, _, _, 3, Tryz.underlying115, by kernel_rfl, ⟨rfl, rfl, rfl⟩, by decide +kernel, Tryz.underlying3, Tryz.underlying25, Tryz.underlying3, by kernel_rfl, Tryz.underlying113, Tryz.underlying172, by kernel_rfl, ⟨rfl, rfl⟩, by decide +kernel, Tryz.underlying3, Tryz.underlying3⟩
end Go.Proofs.YtiflooopfpcelaaGreat

/- Contracts of the laws' helpers that mark threads and machines and look the marks up. Condition: at most 16777216 values. -/
namespace Go.Proofs.YtiflooopfpcelaaGreat
set_option maxRecDepth 20000
set_option linter.unusedSimpArgs false
set_option linter.unusedVariables false
open Go.ChangeShapes Go.WideShapes Go.ChangeAt Go.RowKit
def mk2 (n : Nat) (m : Int) : List P2 := (List.range n).map fun j : Nat => ⟨m + (j * 2 : Nat), m + (j * 2 + 1 : Nat)⟩
theorem mk2_len (n : Nat) (m : Int) : (mk2 n m).length = n := by simp [mk2]
theorem fl2_mk2 (n : Nat) (m : Int) : fl2 (mk2 n m) = marked (n * 2) m := by
  induction n with
  | zero => rfl
  | succ n ih =>
    have h1 : mk2 (n + 1) m = mk2 n m ++ [⟨m + (n * 2 : Nat), m + (n * 2 + 1 : Nat)⟩] := by simp only [mk2, List.range_succ, List.map_append, List.map_cons, List.map_nil]
    have h2 : marked ((n + 1) * 2) m = marked (n * 2) m ++ [m + (n * 2 : Nat), m + (n * 2 + 1 : Nat)] := by
      rw [show (n + 1) * 2 = n * 2 + 1 + 1 from by omega]
      simp only [marked, List.range_succ, List.map_append, List.map_cons, List.map_nil, List.append_assoc, List.cons_append, List.nil_append]
    rw [h1, h2, fl2_append, ih]
    rfl
theorem flc2_mk2 (n : Nat) (m : Int) : flc2 (mk2 n m) = ints (marked (n * 2) m) := by unfold flc2; rw [fl2_mk2]
def mkTh (t : Th) (m : Int) : Th := ⟨m, marked t.v.length (m + 1), mk2 t.f.length (m + 1 + t.v.length)⟩
def cntTh (t : Th) : Nat := 1 + t.v.length + t.f.length * 2
def cntTS (ths : List Th) : Nat := (ths.map cntTh).sum
def mkTS : List Th → Int → List Th
  | [], _ => []
  | t :: ts, m => mkTh t m :: mkTS ts (m + cntTh t)
theorem mkTS_len : ∀ (ths : List Th) (m : Int), (mkTS ths m).length = ths.length
  | [], _ => rfl
  | t :: ts, m => by simp [mkTS, mkTS_len ts]
theorem mkTS_snoc : ∀ (ths : List Th) (t : Th) (m : Int), mkTS (ths ++ [t]) m = mkTS ths m ++ [mkTh t (m + cntTS ths)]
  | [], t, m => by simp [mkTS, cntTS]
  | x :: ts, t, m => by
    rw [List.cons_append, mkTS, mkTS_snoc ts t, mkTS, List.cons_append, show m + (cntTh x : Int) + (cntTS ts : Int) = m + (cntTS (x :: ts) : Int) from by simp [cntTS]; omega]
def mkAt (ths : List Th) (m : Int) (k : Nat) : List Th := mkTS (ths.take k) m ++ ths.drop k
theorem mkAt_len (ths : List Th) (m : Int) (k : Nat) : (mkAt ths m k).length = ths.length := by
  simp only [mkAt, List.length_append, mkTS_len, List.length_take, List.length_drop]
  omega
theorem mkAt_zero (ths : List Th) (m : Int) : mkAt ths m 0 = ths := rfl
theorem mkAt_all (ths : List Th) (m : Int) : mkAt ths m ths.length = mkTS ths m := by simp [mkAt]
theorem mkAt_at {ths : List Th} {m : Int} {k : Nat} {t : Th} (h : ths[k]? = some t) : (mkAt ths m k)[k]? = some t := by
  obtain ⟨hk, rfl⟩ := List.getElem?_eq_some_iff.1 h
  have hl : (mkTS (ths.take k) m).length = k := by rw [mkTS_len, List.length_take]; omega
  unfold mkAt
  rw [List.getElem?_append_right (by omega), hl, Nat.sub_self]
  simp
theorem mkAt_next {ths : List Th} {m : Int} {k : Nat} {t : Th} (h : ths[k]? = some t) : (mkAt ths m k).set k (mkTh t (m + cntTS (ths.take k))) = mkAt ths m (k + 1) := by
  obtain ⟨hk, rfl⟩ := List.getElem?_eq_some_iff.1 h
  have hl : (mkTS (ths.take k) m).length = k := by rw [mkTS_len, List.length_take]; omega
  unfold mkAt
  rw [List.set_append, if_neg (by omega), hl, Nat.sub_self, List.drop_eq_getElem_cons hk, List.set_cons_zero, take_succ_at h, mkTS_snoc, List.append_assoc]
  rfl
theorem cntTS_take {ths : List Th} {k : Nat} {t : Th} (h : ths[k]? = some t) : cntTS (ths.take (k + 1)) = cntTS (ths.take k) + cntTh t := by
  rw [take_succ_at h]
  simp [cntTS]
theorem cntTS_le : ∀ (ths : List Th), cntTS ths ≤ 2 * totTS ths
  | [] => by simp [cntTS]
  | t :: ts => by
    have := cntTS_le ts
    simp only [cntTS, totTS, List.map_cons, List.sum_cons, List.length_cons, cntTh, totTh] at this ⊢
    omega
theorem totTS_take_le (ths : List Th) (k : Nat) : totTS (ths.take k) ≤ totTS ths := by
  have := totTS_sub ths k
  have h : (ths.take k).length ≤ ths.length := by rw [List.length_take]; omega
  simp only [totTS] at this ⊢
  omega
def mkMa (M : Ma) (m : Int) : Ma := ⟨marked M.mem.length m, mkTS M.ths (m + M.mem.length)⟩
def cntMa (M : Ma) : Nat := M.mem.length + cntTS M.ths
theorem cntMa_le (M : Ma) : cntMa M ≤ 2 * totMa M := by
  have := cntTS_le M.ths
  unfold cntMa totMa
  omega
theorem Own.cells_ {w : World} {b o n c s : Nat} {cs : List Value} {bs : List Nat} (h : Own w (.slice (some ⟨b, o, none⟩) n c) s n cs bs) (hn : 0 < n) : At w b o cs := by
  obtain ⟨b', o', c', he, -, -, hat, -⟩ := h.open_ hn
  injection he with h1
  injection h1 with h1
  injection h1 with h1 h2
  subst h1 h2
  exact hat
set_option maxHeartbeats 1600000 in
theorem markThreadS (v : Value) (ths : List Th) (bs : List Nat) (m : Int) (w : World) (h : OwnTS w v ths bs) (hsz : totTS ths ≤ 16777216) (hm0 : 0 ≤ m) (hm : m ≤ 1090921693184) :
    Calls Tryz.prog 50 #[v, .int .i64 m] w fun e w' => e = .returned (.int .i64 (m + cntTS ths)) ∧ OwnTS w' v (mkTS ths m) bs ∧ Only bs w w' := by
  obtain ⟨vs, qs, bt, hv, hq, hO, rfl⟩ := h
  have hT : OwnT w v ths vs qs bt := ⟨hv, hq, hO⟩
  have HBS := Lib.hid (show ∀ b ∈ blks (⟨v, 3, ths.length, thCs ths vs, bt⟩ :: thRows ths vs qs), b ∈ blks (⟨v, 3, ths.length, thCs ths vs, bt⟩ :: thRows ths vs qs) from fun _ h => h)
  obtain ⟨bs, hbs⟩ : ∃ bs, bs = blks (⟨v, 3, ths.length, thCs ths vs, bt⟩ :: thRows ths vs qs) := ⟨_, rfl⟩
  have HBB := Lib.hid hbs
  rw [← hbs]
  clear hbs HBS hO
  obtain ⟨A, c, rfl, hnc, hc⟩ := hT.row.slice
  have hn : ths.length ≤ 16777216 := by unfold totTS at hsz; omega
  by_cases h0 : ths.length = 0
  · have hx : ths = [] := List.eq_nil_of_length_eq_zero h0
    subst hx
    go_enter Tryz.func50, Tryz.ntmps50
    go_wp2
    go_loop [1, 5] (fun mm i => i = .int .i64 0 ∧ mm = .int .i64 m) (fun _ _ => 0)
    case atStart => exact ⟨rfl, rfl⟩
    case round =>
      obtain ⟨rfl, rfl⟩ := hrel
      go_wp2
      go_ret
      refine ⟨ret_int (by simp [cntTS]), ?_, Only.refl _ _⟩
      rw [HBB.out]
      exact hT.toTS
  · obtain ⟨b, o, c', he, rfl, -, -, -, -⟩ := hT.row.open_ (by omega)
    injection he with h1 _ h3
    subst h1 h3
    go_enter Tryz.func50, Tryz.ntmps50
    go_wp2
    go_loopw [1, 5] (fun mm i wr => ∃ k : Nat, k ≤ ths.length ∧ i = .int .i64 k ∧ mm = .int .i64 (m + cntTS (ths.take k)) ∧ OwnT wr (.slice (some ⟨b, o, none⟩) ths.length c) (mkAt ths m k) vs qs [b] ∧ Only bs w wr) (fun _ i _ => ths.length - (intOf i).toNat)
    case atStart => exact ⟨0, Nat.zero_le _, rfl, by simp [cntTS], hT, Only.refl _ _⟩
    case round =>
      obtain ⟨k, hk, rfl, rfl, hA, hOn⟩ := hrel
      clear hT
      by_cases hlt : k < ths.length
      · have hx : ths[k]? = some ths[k] := List.getElem?_eq_getElem hlt
        generalize ths[k] = t at hx
        have hml := mkAt_len ths m k
        have ht := mkAt_at (m := m) hx
        obtain ⟨a, f, qa, qb, hp, hq⟩ := hA.get ht
        have HX := Lib.hid hx
        have hc2 := cntTS_le (ths.take k)
        have hc3 := totTS_take_le ths k
        have hc4 := totTS_mem hx
        have hvl : t.v.length ≤ 16777216 ∧ t.f.length ≤ 16777216 := by unfold totTh at hc4; omega
        obtain ⟨M, hM⟩ : ∃ M : Int, M = m + cntTS (ths.take k) := ⟨_, rfl⟩
        have hMb : 0 ≤ M ∧ M ≤ 1099000000000 := by omega
        have HM := Lib.hid hM
        rw [← hM]
        clear hx hc2 hc3 hc4 hM
        -- the counter
        have hat := (show Own wr (.slice (some ⟨b, o, none⟩) ths.length c) 3 ths.length (thCs (mkAt ths m k) vs) [b] from hml ▸ hA.row).cells_ (by omega)
        obtain ⟨hc0, hf0⟩ := hat (k * 3 + 0) _ (thCs_at ht hp 0 (by omega))
        rw [Nat.add_zero] at hc0 hf0
        obtain ⟨hA1, -⟩ := hA.pc ht M
        have ht1 : ((mkAt ths m k).set k { t with pc := M })[k]? = some { t with pc := M } := by rw [List.getElem?_set_self (by omega)]
        have hl1 : ((mkAt ths m k).set k { t with pc := M }).length = ths.length := by rw [List.length_set, hml]
        have hat1 := (show Own _ (.slice (some ⟨b, o, none⟩) ths.length c) 3 ths.length (thCs ((mkAt ths m k).set k { t with pc := M }) vs) [b] from hl1 ▸ hA1.row).cells_ (by omega)
        have hob := hOn.trans (Only.mono (Only.setCell (b := b) (i := o + k * 3) wr (.int .i64 M)) (bs' := bs) fun x hx => by rw [HBB.out, blks_cons]; exact List.mem_append.2 (.inl hx))
        obtain ⟨Av, cv, rfl, -, -⟩ := (hA1.vals ht1 hp hq).slice
        obtain ⟨Af, cf, rfl, -, -⟩ := (hA1.buf ht1 hp hq).slice
        obtain ⟨hcv, -⟩ := hat1 (k * 3 + 1) _ (thCs_at ht1 hp 1 (by omega))
        rw [← Nat.add_assoc] at hcv
        have hvs := hA1.vals ht1 hp hq
        have HA1 := Lib.hid hA1
        have HOB := Lib.hid hob
        clear hat hat1 hA hA1 hOn hob
        go_wp2_with fail
        refine (markIntS _ t.v qa (M + 1) _ hvs (by omega) (by omega) (by omega)).mono ?_
        rintro e w1 ⟨rfl, ho1, hon1⟩
        have hvl' : (marked t.v.length (M + 1)).length = t.v.length := marked_len _ _
        have hA2 := HA1.out.newV (x := marked t.v.length (M + 1)) ht1 hp hq hon1 (by rw [hvl']; exact ho1)
        rw [List.set_set] at hA2
        have ht2 : ((mkAt ths m k).set k ⟨M, marked t.v.length (M + 1), t.f⟩)[k]? = some ⟨M, marked t.v.length (M + 1), t.f⟩ := by rw [List.getElem?_set_self (by omega)]
        have hl2 : ((mkAt ths m k).set k ⟨M, marked t.v.length (M + 1), t.f⟩).length = ths.length := by rw [List.length_set, hml]
        have hat2 := (show Own _ (.slice (some ⟨b, o, none⟩) ths.length c) 3 ths.length (thCs ((mkAt ths m k).set k ⟨M, marked t.v.length (M + 1), t.f⟩) vs) [b] from hl2 ▸ hA2.row).cells_ (by omega)
        obtain ⟨hcf, -⟩ := hat2 (k * 3 + 2) _ (thCs_at ht2 hp 2 (by omega))
        rw [← Nat.add_assoc] at hcf
        have hqin : ∀ x, x ∈ qa ∨ x ∈ qb → x ∈ bs := by
          intro x hx
          have h1 := thRows_at HX.out hp hq
          rw [HBB.out, blks_cons]
          refine List.mem_append.2 (.inr ?_)
          rcases hx with hx | hx
          · exact mem_blks_at h1.1 x hx
          · exact mem_blks_at h1.2 x hx
        have hob2 := HOB.out.trans (hon1.mono (bs' := bs) fun x hx => hqin x (.inl hx))
        have hfs := hA2.buf ht2 hp hq
        have HA2 := Lib.hid hA2
        have HOB2 := Lib.hid hob2
        have HQ := Lib.hid hqin
        clear hat2 hA2 hob2 HOB HA1 ho1 hon1 hvs ht1 hl1 hqin
        go_wp2_with fail
        refine (markSlotS _ (fl2 t.f) t.f.length qb (M + 1 + t.v.length) _ hfs (by omega) (by omega) (by omega)).mono ?_
        rintro e w2 ⟨rfl, ho2, hon2⟩
        have hA3 := HA2.out.newF (x := mk2 t.f.length (M + 1 + t.v.length)) ht2 hp hq hon2 (by rw [mk2_len, flc2_mk2]; exact ho2)
        rw [List.set_set] at hA3
        have hA4 : OwnT w2 (.slice (some ⟨b, o, none⟩) ths.length c) (mkAt ths m (k + 1)) vs qs [b] := by
          rw [← mkAt_next HX.out, ← HM.out]
          exact hA3
        have hob3 := HOB2.out.trans (hon2.mono (bs' := bs) fun x hx => HQ.out x (.inr hx))
        have hct : m + (cntTS (ths.take (k + 1)) : Int) = M + 1 + t.v.length + t.f.length * 2 := by
          rw [cntTS_take HX.out, HM.out]
          unfold cntTh
          omega
        have HCT := Lib.hid hct
        clear hA3 HA2 HOB2 hfs ho2 hon2 ht2 hl2 hct
        go_wp2_with fail
        exact ⟨⟨k + 1, by omega, by go_num, by rw [HCT.out], hA4, hob3⟩, by simp [intOf]; omega⟩
      · obtain rfl : k = ths.length := by omega
        rw [List.take_length]
        go_wp2_with fail
        go_ret
        refine ⟨rfl, ?_, hOn⟩
        rw [mkAt_all] at hA
        have e1 : bs = blks (⟨.slice (some ⟨b, o, none⟩) ths.length c, 3, (mkTS ths m).length, thCs (mkTS ths m) vs, [b]⟩ :: thRows (mkTS ths m) vs qs) := by
          rw [HBB.out, blks_cons, blks_cons]
          congr 1
          have : ∀ (xs ys : List Th) (ps : List (Value × Value)) (zs : List (List Nat × List Nat)), xs.length = ys.length → blks (thRows xs ps zs) = blks (thRows ys ps zs) := by
            intro xs
            induction xs with
            | nil =>
              intro ys ps zs h
              have : ys = [] := List.eq_nil_of_length_eq_zero h.symm
              subst this
              rfl
            | cons x xs ih =>
              intro ys ps zs h
              match ys, ps, zs, h with
              | [], _, _, h => simp at h
              | y :: ys, [], _, h => rfl
              | y :: ys, p :: ps, [], h => rfl
              | y :: ys, p :: ps, z :: zs, h =>
                rw [thRows, thRows, blks_cons, blks_cons, blks_cons, blks_cons, ih ys ps zs (by simpa using h)]
                rfl
          exact this _ _ _ _ (mkTS_len _ _).symm
        rw [e1]
        exact hA.toTS
set_option maxHeartbeats 1600000 in
theorem markMachine (mv tv : Value) (M : Ma) (bs : List Nat) (m : Int) (w : World) (h : OwnMa w mv tv M bs) (hsz : totMa M ≤ 16777216) (hm0 : 0 ≤ m) (hm : m ≤ 1073741824) :
    Calls Tryz.prog 17 #[.agg #[mv, tv], .int .i64 m] w fun e w' => e = .returned (.int .i64 (m + cntMa M)) ∧ OwnMa w' mv tv (mkMa M m) bs ∧ Only bs w w' := by
  obtain ⟨A, c, B, d, rfl, rfl⟩ := h.slices
  obtain ⟨bm, bt, hM, hT, hdis, rfl⟩ := h
  have hsm : M.mem.length ≤ 16777216 ∧ totTS M.ths ≤ 16777216 := by unfold totMa at hsz; omega
  have hB := (Below.refl w.heap.size w).alloc (Nat.le_refl _) (.cells #[.slice A M.mem.length c, .slice B M.ths.length d] 38)
  have K := Bk.new w #[.slice A M.mem.length c, .slice B M.ths.length d] 38
  have hM1 := hM.below hB
  have hT1 := hT.below hB
  have hlm := hM.lt
  have hlt := hT.lt
  have HB := Lib.hid hB
  clear hB
  go_enter Tryz.func17, Tryz.ntmps17
  go_wp2_with fail
  refine (markMem _ M.mem bm m _ hM1 hsm.1 hm0 hm).mono ?_
  rintro e w1 ⟨rfl, ho1, hon1⟩
  have K1 := K.only hon1 (fun hm => by have := hlm _ hm; omega)
  have hT2 := hT1.only hon1 (fun b hb hm => hdis b hm hb)
  have hO1 := (Only.of_below HB.out (bm ++ bt)).trans (hon1.mono fun b hb => List.mem_append.2 (.inl hb))
  obtain ⟨hc0, hf0⟩ := K1.at_ 1 (x := .slice B M.ths.length d) rfl
  have HO1 := Lib.hid hO1
  clear hO1
  go_wp2_with fail
  refine (markThreadS _ M.ths bt (m + M.mem.length) _ hT2 hsm.2 (by omega) (by omega)).mono ?_
  rintro e w2 ⟨rfl, ho2, hon2⟩
  have hM3 := ho1.only hon2 hdis
  have hO2 := HO1.out.trans (hon2.mono fun b hb => List.mem_append.2 (.inr hb))
  have hct : Hid (m + (cntMa M : Int) = m + M.mem.length + cntTS M.ths) := Lib.hid (by unfold cntMa; omega)
  have HO2 := Lib.hid hO2
  clear hO2 HO1
  go_wp2_with fail
  go_ret
  exact ⟨ret_int hct.out.symm, ⟨bm, bt, by rw [show (mkMa M m).mem.length = M.mem.length from marked_len _ _]; exact hM3, ho2, hdis, rfl⟩, HO2.out⟩
set_option maxHeartbeats 1600000 in
theorem heldThreadS (v : Value) (ths : List Th) (m : Int) (w : World) (h : RdTS w v (mkTS ths m)) (hsz : totTS ths ≤ 16777216) (hm0 : 0 ≤ m) (hm : m ≤ 1090921693184) :
    Calls Tryz.prog 52 #[v, .int .i64 m] w fun e w' => e = .returned (.int .i64 (m + cntTS ths)) ∧ Below w.heap.size w w' := by
  obtain ⟨vs, hvl, ⟨A, c, rfl, -, hnc, hc, hr⟩, hin⟩ := h
  unfold maxLen at hc
  rw [mkTS_len] at hnc hr hvl ⊢
  have hn : ths.length ≤ 16777216 := by unfold totTS at hsz; omega
  go_enter Tryz.func52, Tryz.ntmps52
  go_wp2
  go_loopw [1, 5] (fun mm i wr => ∃ k : Nat, k ≤ ths.length ∧ i = .int .i64 k ∧ mm = .int .i64 (m + cntTS (ths.take k)) ∧ Below w.heap.size w wr) (fun _ i _ => ths.length - (intOf i).toNat)
  case atStart => exact ⟨0, Nat.zero_le _, rfl, by simp [cntTS], Below.refl _ _⟩
  case round =>
    obtain ⟨k, hk, rfl, rfl, hB⟩ := hrel
    by_cases hlt : k < ths.length
    · obtain ⟨b, o, rfl, hb, hcell⟩ := hr (by omega)
      have hx : ths[k]? = some ths[k] := List.getElem?_eq_getElem hlt
      generalize ths[k] = t at hx
      obtain ⟨t', a, f, hxk, hpk, hx0, hx1, hx2⟩ := th_at (k := k) (by rw [mkTS_len]; exact hvl) hcell (by rw [mkTS_len]; exact hlt) hB hb
      have he : t' = mkTh t (m + cntTS (ths.take k)) := by
        have h1 := mkAt_next (m := m) hx
        have h2 : (mkAt ths m (k + 1))[k]? = some (mkTh t (m + cntTS (ths.take k))) := by rw [← h1, List.getElem?_set_self (by rw [mkAt_len]; exact hlt)]
        have h3 : mkTS ths m = mkTS (ths.take (k + 1)) m ++ (mkTS ths m).drop (k + 1) := by
          have key : ∀ (xs : List Th) (q : Int) (j : Nat), mkTS (xs.take j) q = (mkTS xs q).take j := by
            intro xs
            induction xs with
            | nil => intro q j; simp [mkTS]
            | cons x xs ih =>
              intro q j
              cases j with
              | zero => simp [mkTS]
              | succ j => simp [mkTS, ih]
          rw [key, List.take_append_drop]
        have h4 := hxk.out
        rw [h3, List.getElem?_append_left (by rw [mkTS_len, List.length_take]; omega)] at h4
        unfold mkAt at h2
        rw [List.getElem?_append_left (by rw [mkTS_len, List.length_take]; omega)] at h2
        exact Option.some.inj (h4.symm.trans h2)
      subst he
      obtain ⟨ra, rb⟩ := hin k _ (a, f) hxk.out hpk.out
      have ra1 := ra.below hB
      have rb1 := rb.below hB
      have HX := Lib.hid hx
      have hc2 := cntTS_le (ths.take k)
      have hc3 := totTS_take_le ths k
      have hc4 := totTS_mem hx
      have hvl2 : t.v.length ≤ 16777216 ∧ t.f.length ≤ 16777216 := by unfold totTh at hc4; omega
      obtain ⟨M, hM⟩ : ∃ M : Int, M = m + cntTS (ths.take k) := ⟨_, rfl⟩
      have hMb : 0 ≤ M ∧ M ≤ 1099000000000 := by omega
      have HM := Lib.hid hM
      simp only [← hM] at hx0 ra1 rb1 ⊢
      clear hx hc2 hc3 hc4 hM hcell hr hin ra rb hxk hpk
      have e0 : (mkTh t M).pc = M := rfl
      have e1 : (mkTh t M).v = marked t.v.length (M + 1) := rfl
      have e2 : (mkTh t M).f = mk2 t.f.length (M + 1 + t.v.length) := rfl
      rw [e0] at hx0
      rw [e1, marked_len] at ra1
      rw [e2, mk2_len, flc2_mk2] at rb1
      obtain ⟨Av, cv, rfl, -, -, -, -⟩ := id ra1
      obtain ⟨Af, cf, rfl, -, -, -, -⟩ := id rb1
      have hb1 : (M != M) = false := by simp
      have hct : m + (cntTS (ths.take (k + 1)) : Int) = M + 1 + t.v.length + t.f.length * 2 := by
        rw [cntTS_take HX.out, HM.out]
        unfold cntTh
        omega
      have HCT := Lib.hid hct
      clear hct e0 e1 e2
      go_wp2_with fail
      refine (heldIntS _ t.v.length (M + 1) _ ra1 (by omega) (by omega) (by omega)).mono ?_
      rintro e w1 ⟨rfl, rfl⟩
      go_wp2_with fail
      refine (heldSlotS _ t.f.length (M + 1 + t.v.length) _ rb1 (by omega) (by omega) (by omega)).mono ?_
      rintro e w2 ⟨rfl, rfl⟩
      go_wp2_with fail
      exact ⟨⟨k + 1, by omega, by go_num, by rw [HCT.out], hB⟩, by simp [intOf]; omega⟩
    · obtain rfl : k = ths.length := by omega
      rw [List.take_length]
      have hcp : 0 ≤ m + (cntTS ths : Int) := by omega
      go_wp2_with fail
      go_ret
      exact ⟨rfl, hB⟩
set_option maxHeartbeats 1600000 in
theorem heldMachine (mv tv : Value) (M : Ma) (m : Int) (w : World) (h : RdMa w mv tv (mkMa M m)) (hsz : totMa M ≤ 16777216) (hm0 : 0 ≤ m) (hm : m ≤ 1073741824) :
    Calls Tryz.prog 18 #[.agg #[mv, tv], .int .i64 m] w fun e w' => e = .returned (.int .i64 (m + cntMa M)) ∧ Below w.heap.size w w' := by
  have h1 := h.mem
  have h2 := h.ths
  rw [show (mkMa M m).mem.length = M.mem.length from marked_len _ _] at h1
  obtain ⟨A, c, B, d, rfl, rfl, -⟩ := h.slices
  rw [show (mkMa M m).mem.length = M.mem.length from marked_len _ _, show (mkMa M m).ths.length = M.ths.length from mkTS_len _ _] at *
  have hsm : M.mem.length ≤ 16777216 ∧ totTS M.ths ≤ 16777216 := by unfold totMa at hsz; omega
  have hB := (Below.refl w.heap.size w).alloc (Nat.le_refl _) (.cells #[.slice A M.mem.length c, .slice B M.ths.length d] 38)
  have K := Bk.new w #[.slice A M.mem.length c, .slice B M.ths.length d] 38
  have HB := Lib.hid hB
  have hct : Hid (m + (cntMa M : Int) = m + M.mem.length + cntTS M.ths) := Lib.hid (by unfold cntMa; omega)
  clear hB
  go_enter Tryz.func18, Tryz.ntmps18
  go_wp2_with fail
  refine (heldMem _ M.mem.length m _ (h1.below HB.out) (by omega) (by omega) (by omega)).mono ?_
  rintro e w1 ⟨rfl, hb1⟩
  have hB1 := HB.out.trans (hb1.mono HB.out.size)
  have K1 := K.below hb1 K.lt
  obtain ⟨hc0, hf0⟩ := K1.at_ 1 (x := .slice B M.ths.length d) rfl
  have HB1 := Lib.hid hB1
  clear hB1
  go_wp2_with fail
  refine (heldThreadS _ M.ths (m + M.mem.length) _ (h2.below HB1.out) hsm.2 (by omega) (by omega)).mono ?_
  rintro e w2 ⟨rfl, hb2⟩
  have hge : 0 ≤ m + (M.mem.length : Int) + (cntTS M.ths : Int) := by omega
  have hle : m + (M.mem.length : Int) + (cntTS M.ths : Int) ≤ 1099511627776 := by have := cntTS_le M.ths; omega
  have HB2 := Lib.hid (HB1.out.trans (hb2.mono HB1.out.size))
  go_wp2_with fail
  go_ret
  exact ⟨ret_int hct.out.symm, HB2.out⟩
end Go.Proofs.YtiflooopfpcelaaGreat

/- Contracts of the laws' helpers that mark programs. Condition: at most 16777216 instructions. -/
namespace Go.Proofs.YtiflooopfpcelaaGreat
set_option maxRecDepth 20000
set_option linter.unusedSimpArgs false
set_option linter.unusedVariables false
open Go.ChangeShapes Go.WideShapes Go.ChangeAt Go.RowKit
def mk4 (n : Nat) (m : Int) : List Ins := (List.range n).map fun j : Nat => ⟨m + (j * 4 : Nat), m + (j * 4 + 1 : Nat), m + (j * 4 + 2 : Nat), m + (j * 4 + 3 : Nat)⟩
theorem mk4_len (n : Nat) (m : Int) : (mk4 n m).length = n := by simp [mk4]
theorem flc_mk4 (n : Nat) (m : Int) : flc (mk4 n m) = ints (marked (n * 4) m) := by
  unfold flc
  congr 1
  induction n with
  | zero => rfl
  | succ n ih =>
    have h1 : mk4 (n + 1) m = mk4 n m ++ [⟨m + (n * 4 : Nat), m + (n * 4 + 1 : Nat), m + (n * 4 + 2 : Nat), m + (n * 4 + 3 : Nat)⟩] := by simp only [mk4, List.range_succ, List.map_append, List.map_cons, List.map_nil]
    have h2 : marked ((n + 1) * 4) m = marked (n * 4) m ++ [m + (n * 4 : Nat), m + (n * 4 + 1 : Nat), m + (n * 4 + 2 : Nat), m + (n * 4 + 3 : Nat)] := by
      rw [show (n + 1) * 4 = n * 4 + 1 + 1 + 1 + 1 from by omega]
      simp only [marked, List.range_succ, List.map_append, List.map_cons, List.map_nil, List.append_assoc, List.cons_append, List.nil_append]
    rw [h1, h2, fl_append, ih]
    rfl
def cntSS (xss : List (List Ins)) : Nat := (xss.map fun xs => xs.length * 4).sum
def mkSS : List (List Ins) → Int → List (List Ins)
  | [], _ => []
  | xs :: xss, m => mk4 xs.length m :: mkSS xss (m + (xs.length * 4 : Nat))
theorem mkSS_len : ∀ (xss : List (List Ins)) (m : Int), (mkSS xss m).length = xss.length
  | [], _ => rfl
  | t :: ts, m => by simp [mkSS, mkSS_len ts]
theorem mkSS_snoc : ∀ (xss : List (List Ins)) (xs : List Ins) (m : Int), mkSS (xss ++ [xs]) m = mkSS xss m ++ [mk4 xs.length (m + cntSS xss)]
  | [], t, m => by simp [mkSS, cntSS]
  | x :: ts, t, m => by
    rw [List.cons_append, mkSS, mkSS_snoc ts t, mkSS, List.cons_append, show m + ((x.length * 4 : Nat) : Int) + (cntSS ts : Int) = m + (cntSS (x :: ts) : Int) from by simp [cntSS]; omega]
def mkSAt (xss : List (List Ins)) (m : Int) (k : Nat) : List (List Ins) := mkSS (xss.take k) m ++ xss.drop k
theorem mkSAt_len (xss : List (List Ins)) (m : Int) (k : Nat) : (mkSAt xss m k).length = xss.length := by
  simp only [mkSAt, List.length_append, mkSS_len, List.length_take, List.length_drop]
  omega
theorem mkSAt_at {xss : List (List Ins)} {m : Int} {k : Nat} {t : List Ins} (h : xss[k]? = some t) : (mkSAt xss m k)[k]? = some t := by
  obtain ⟨hk, rfl⟩ := List.getElem?_eq_some_iff.1 h
  have hl : (mkSS (xss.take k) m).length = k := by rw [mkSS_len, List.length_take]; omega
  unfold mkSAt
  rw [List.getElem?_append_right (by omega), hl, Nat.sub_self]
  simp
theorem mkSAt_next {xss : List (List Ins)} {m : Int} {k : Nat} {t : List Ins} (h : xss[k]? = some t) : (mkSAt xss m k).set k (mk4 t.length (m + cntSS (xss.take k))) = mkSAt xss m (k + 1) := by
  obtain ⟨hk, rfl⟩ := List.getElem?_eq_some_iff.1 h
  have hl : (mkSS (xss.take k) m).length = k := by rw [mkSS_len, List.length_take]; omega
  unfold mkSAt
  rw [List.set_append, if_neg (by omega), hl, Nat.sub_self, List.drop_eq_getElem_cons hk, List.set_cons_zero, List.take_add_one, List.getElem?_eq_getElem hk, Option.toList_some, mkSS_snoc, List.append_assoc]
  rfl
theorem cntSS_take {xss : List (List Ins)} {k : Nat} {t : List Ins} (h : xss[k]? = some t) : cntSS (xss.take (k + 1)) = cntSS (xss.take k) + t.length * 4 := by
  rw [List.take_add_one, h]
  simp [cntSS]
theorem cntSS_le : ∀ (xss : List (List Ins)) (k : Nat), cntSS (xss.take k) ≤ 4 * totSS xss
  | [], k => by simp [cntSS]
  | t :: ts, 0 => by simp [cntSS]
  | t :: ts, k + 1 => by
    have := cntSS_le ts k
    simp only [cntSS, totSS, List.take_succ_cons, List.map_cons, List.sum_cons, List.length_cons] at this ⊢
    omega
theorem cntSS_all (xss : List (List Ins)) : cntSS xss ≤ 4 * totSS xss := by
  have := cntSS_le xss xss.length
  rwa [List.take_length] at this
theorem InSS.upd {w w' : World} {ys : List Ins} {c : Value} {xs : List Ins} {b : List Nat} (ho : Only b w w') (hn : Own w' c 4 ys.length (flc ys) b) : ∀ {vs : List Value} {xss : List (List Ins)} {bss : List (List Nat)} {k : Nat}, InSS w vs xss bss → vs[k]? = some c → xss[k]? = some xs → bss[k]? = some b →
    InSS w' vs (xss.set k ys) bss
  | [], _, _, k, _, h, _, _ => by simp at h
  | _ :: _, [], _, k, _, _, h, _ => by simp at h
  | _ :: _, _ :: _, [], k, _, _, _, h => by simp at h
  | c0 :: vs, x0 :: xss, b0 :: bss, 0, h, h1, h2, h3 => by
    simp only [List.getElem?_cons_zero, Option.some.injEq] at h1 h2 h3
    subst h1 h2 h3
    exact ⟨hn, h.2.1, InSS.of_blocks ho.size h.2.2 fun y hy => ho.block y (InSS.lt h.2.2 y hy) fun hm => by have := h.2.1 y hm y hy; omega⟩
  | c0 :: vs, x0 :: xss, b0 :: bss, k + 1, h, h1, h2, h3 => by
    have hb : ∀ y ∈ b, y ∈ bss.flatten := fun y hy => List.mem_flatten.2 ⟨b, List.mem_of_getElem? (by simpa using h3), hy⟩
    exact ⟨h.1.only ho fun y hy hm => by have := h.2.1 y hy y (hb y hm); omega, h.2.1, InSS.upd ho hn h.2.2 (by simpa using h1) (by simpa using h2) (by simpa using h3)⟩
theorem InSS.get {w : World} : ∀ {vs : List Value} {xss : List (List Ins)} {bss : List (List Nat)} {k : Nat} {xs : List Ins}, InSS w vs xss bss → xss[k]? = some xs → ∃ c b, vs[k]? = some c ∧ bss[k]? = some b ∧ Own w c 4 xs.length (flc xs) b
  | [], [], _, k, xs, _, h => by simp at h
  | [], _ :: _, _, k, xs, h, _ => h.elim
  | _ :: _, [], _, k, xs, _, h => by simp at h
  | _ :: _, _ :: _, [], k, xs, h, _ => h.elim
  | c0 :: vs, x0 :: xss, b0 :: bss, 0, xs, h, h2 => by
    simp only [List.getElem?_cons_zero, Option.some.injEq] at h2
    subst h2
    exact ⟨c0, b0, rfl, rfl, h.1⟩
  | c0 :: vs, x0 :: xss, b0 :: bss, k + 1, xs, h, h2 => by
    obtain ⟨c, b, h3, h4, h5⟩ := InSS.get h.2.2 (by simpa using h2)
    exact ⟨c, b, by simpa using h3, by simpa using h4, h5⟩
set_option maxHeartbeats 1600000 in
theorem markInstrSS (v : Value) (xss : List (List Ins)) (bs : List Nat) (m : Int) (w : World) (h : OwnSS w v xss bs) (hsz : totSS xss ≤ 16777216) (hm0 : 0 ≤ m) (hm : m ≤ 1090921693184) :
    Calls Tryz.prog 48 #[v, .int .i64 m] w fun e w' => e = .returned (.int .i64 (m + cntSS xss)) ∧ OwnSS w' v (mkSS xss m) bs ∧ Only bs w w' := by
  obtain ⟨vs, b0, bss, hR, hI, rfl, hord⟩ := h
  obtain ⟨A, c, rfl, hnc, hc⟩ := hR.slice
  have hn : xss.length ≤ 16777216 := by unfold totSS at hsz; omega
  obtain ⟨bs, hbs⟩ : ∃ bs, bs = b0 ++ bss.flatten := ⟨_, rfl⟩
  have HBB := Lib.hid hbs
  rw [← hbs]
  clear hbs
  have HR := Lib.hid hR
  have hdis : ∀ x ∈ b0, x ∉ bss.flatten := fun x hx hm => by have := hord x hx x hm; omega
  have HORD := Lib.hid hord
  have HD := Lib.hid hdis
  clear hord hdis
  go_enter Tryz.func48, Tryz.ntmps48
  go_wp2
  go_loopw [1, 5] (fun mm i wr => ∃ k : Nat, k ≤ xss.length ∧ i = .int .i64 k ∧ mm = .int .i64 (m + cntSS (xss.take k)) ∧ InSS wr vs (mkSAt xss m k) bss ∧ Own wr (.slice A xss.length c) 1 xss.length vs b0 ∧ Only bs w wr) (fun _ i _ => xss.length - (intOf i).toNat)
  case atStart => exact ⟨0, Nat.zero_le _, rfl, by simp [cntSS], hI, hR, Only.refl _ _⟩
  case round =>
    obtain ⟨k, hk, rfl, rfl, hJ, hS, hOn⟩ := hrel
    clear hI hR
    by_cases hlt : k < xss.length
    · have hx : xss[k]? = some xss[k] := List.getElem?_eq_getElem hlt
      generalize xss[k] = xs at hx
      have ht := mkSAt_at (m := m) hx
      obtain ⟨ck, bk, hck, hbk, hown⟩ := hJ.get ht
      obtain ⟨b, o, c', he, hb0, -, hat, -, -⟩ := hS.open_ (by omega)
      injection he with h1 _ h3
      subst h1 h3
      obtain ⟨hc0, hf0⟩ := hat k _ hck
      have hsub := totSS_mem (List.mem_of_getElem? hx)
      have hcl := cntSS_le xss k
      obtain ⟨Ak, dk, rfl, -, -⟩ := hown.slice
      have HX := Lib.hid hx
      have hct := cntSS_take hx
      obtain ⟨M, hM⟩ : ∃ M : Int, M = m + cntSS (xss.take k) := ⟨_, rfl⟩
      have hMb : 0 ≤ M ∧ M ≤ 1099000000000 := by omega
      have HCT : Hid (m + (cntSS (xss.take (k + 1)) : Int) = M + xs.length * 4) := Lib.hid (by omega)
      have HM := Lib.hid hM
      rw [← hM]
      clear hx hat hcl hM hct
      go_wp2_with fail
      refine (markInstrS _ (fl xs) xs.length bk M _ hown (by omega) (by omega) (by omega)).mono ?_
      rintro e w1 ⟨rfl, ho1, hon1⟩
      have hin : ∀ y ∈ bk, y ∈ bss.flatten := fun y hy => List.mem_flatten.2 ⟨bk, List.mem_of_getElem? hbk, hy⟩
      have hJ2 := InSS.upd (ys := mk4 xs.length M) hon1 (by rw [mk4_len, flc_mk4]; exact ho1) hJ hck ht hbk
      rw [HM.out, mkSAt_next HX.out] at hJ2
      have hS2 := hS.only hon1 fun y hy hm => HD.out y hy (hin y hm)
      have hOn2 := hOn.trans (hon1.mono (bs' := bs) fun y hy => by rw [HBB.out]; exact List.mem_append.2 (.inr (hin y hy)))
      clear hJ hS hOn hown ho1 hon1 hin
      go_wp2_with fail
      exact ⟨⟨k + 1, by omega, by go_num, by rw [HCT.out], hJ2, hS2, hOn2⟩, by simp [intOf]; omega⟩
    · obtain rfl : k = xss.length := by omega
      rw [List.take_length]
      go_wp2_with fail
      go_ret
      unfold mkSAt at hJ
      rw [List.take_length, List.drop_length, List.append_nil] at hJ
      exact ⟨rfl, ⟨vs, b0, bss, by rw [mkSS_len]; exact hS, hJ, HBB.out, HORD.out⟩, hOn⟩
def mkPr (p : Pr) (m : Int) : Pr := ⟨p.c, mkSS p.x m⟩
set_option maxHeartbeats 800000 in
theorem markProg (v : Value) (p : Pr) (bs : List Nat) (m : Int) (w : World) (h : OwnSS w v p.x bs) (hsz : totSS p.x ≤ 16777216) (hm0 : 0 ≤ m) (hm : m ≤ 1090921693184) :
    Calls Tryz.prog 16 #[.agg #[.int .i64 p.c, v], .int .i64 m] w fun e w' => e = .returned (.int .i64 (m + cntSS p.x)) ∧ OwnSS w' v (mkPr p m).x bs ∧ Only bs w w' := by
  obtain ⟨A, c, rfl, hnc, hc⟩ := h.slice
  have hB := (Below.refl w.heap.size w).alloc (Nat.le_refl _) (.cells #[.int .i64 p.c, .slice A p.x.length c] 43)
  have h1 := h.below hB
  have HB := Lib.hid hB
  clear hB
  go_enter Tryz.func16, Tryz.ntmps16
  go_wp2_with fail
  refine (markInstrSS _ p.x bs m _ h1 hsz hm0 hm).mono ?_
  rintro e w1 ⟨rfl, ho1, hon1⟩
  go_wp2_with fail
  go_ret
  exact ⟨rfl, ho1, (Only.of_below HB.out bs).trans hon1⟩
end Go.Proofs.YtiflooopfpcelaaGreat

/- How great a machine is behind a move. Pure. -/
namespace Go.Proofs.YtiflooopfpcelaaGreat
set_option maxRecDepth 20000
set_option linter.unusedSimpArgs false
set_option linter.unusedVariables false
theorem sum_tot {ths : List Th} (h : ∀ t ∈ ths, totTh t ≤ 7) : (ths.map totTh).sum ≤ ths.length * 7 := by
  induction ths with
  | nil => simp
  | cons t ts ih =>
    have h1 := h t (by simp)
    have h2 := ih fun u hu => h u (by simp [hu])
    simp only [List.map_cons, List.sum_cons, List.length_cons]
    omega
theorem machOk_tot {p : Pr} {M : Ma} (h : machOk p M = true) : totMa M ≤ 40 := by
  obtain ⟨h1, h2, h3, h4, -⟩ := machOk_parts h
  have h5 := progOk_len h1
  have h6 : ∀ t ∈ M.ths, totTh t ≤ 7 := fun t ht => by
    obtain ⟨k, hk⟩ := List.mem_iff_getElem?.1 ht
    have hkl := (List.getElem?_eq_some_iff.1 hk).1
    obtain ⟨-, h7, h8, -, -⟩ := thOk_parts (machOk_th h hk (List.getElem?_eq_getElem (by omega)))
    simp only [bufOk, Bool.and_eq_true, decide_eq_true_eq] at h8
    have := h8.1
    unfold totTh
    omega
  have h9 := sum_tot h6
  simp only [totMa, totTS]
  omega
theorem doF_tot (p : Pr) (M : Ma) (m : Mv) : totMa (doF p M m) ≤ totMa M + 40 := by
  unfold doF
  split
  · rename_i h
    have := machOk_tot (doAt_ok h)
    omega
  · omega
end Go.Proofs.YtiflooopfpcelaaGreat

/- A plain step of a machine: a thread's buffer is emptied, an instruction carried out, the buffer emptied again. Pure. -/
namespace Go.Proofs.YtiflooopfpcelaaGreat
set_option maxRecDepth 20000
set_option linter.unusedSimpArgs false
set_option linter.unusedVariables false
open Go.RowKit
def noBuf (t : Th) : Th := { t with f := [] }
def daM (M : Ma) (k : Nat) (t : Th) : Ma := ⟨daF t.f M.mem, M.ths.set k (noBuf t)⟩
/-- the thread behind the instruction of a plain step -/
def plT (M : Ma) (t : Th) (code : List Ins) : Th := effT (daF t.f M.mem) (stepT (noBuf t)) (insAt (noBuf t) code)
def plE (M : Ma) (k : Nat) (t : Th) (code : List Ins) : Ma := execF (daM M k t) k (noBuf t) code
def plM (M : Ma) (k : Nat) (t : Th) (code : List Ins) : Ma := daM (plE M k t code) k (plT M t code)
/-- StepPlain -/
def spB (p : Pr) (M : Ma) (t : Int) : Bool := machOk p M && inB t 0 (M.ths.length - 1) && !endT (M.ths.getD t.toNat ⟨0, [], []⟩) (p.x.getD t.toNat [])
def spF (p : Pr) (M : Ma) (t : Int) : Ma := if spB p M t then plM M t.toNat (M.ths.getD t.toNat ⟨0, [], []⟩) (p.x.getD t.toNat []) else M
theorem run_some : ∀ {f : List P2} {ms : List Int} {c : Int}, bufOk f = true → memOk ms = true → (ms.length : Int) = c → f.all (lowA c) = true → ∃ ns, runF f ms = some ns ∧ memOk ns = true
  | [], ms, c, _, hm, _, _ => ⟨ms, rfl, hm⟩
  | x :: xs, ms, c, hf, hm, hl, ha => by
    have hx : slotOk x = true := by
      simp only [bufOk, Bool.and_eq_true, List.all_cons] at hf
      exact hf.2.1
    simp only [slotOk, Bool.and_eq_true] at hx
    simp only [List.all_cons, Bool.and_eq_true, lowA, decide_eq_true_eq] at ha
    have h1 := inB_true hx.1
    have hp : pokeOk ms x.a x.b = true := by
      unfold pokeOk
      rw [hm, hx.2, inB_of (by omega)]
      rfl
    have hm2 : memOk (pokeF ms x.a x.b) = true := by
      unfold pokeF
      rw [if_pos hp]
      exact memOk_set hm _ hx.2
    obtain ⟨ns, h2, h3⟩ := run_some (f := xs) (ms := pokeF ms x.a x.b) (c := c) (bufOk_tail hf) hm2 (by rw [pokeF_len]; exact hl) (by simpa [lowA] using ha.2)
    exact ⟨ns, by rw [runF, if_pos hp]; exact h2, h3⟩
theorem daF_some {f : List P2} {ms ns : List Int} (hf : bufOk f = true) (hm : memOk ms = true) (h : runF f ms = some ns) : daF f ms = ns := by
  unfold daF
  rw [hf, hm, h]
  rfl
theorem dr_ok {c : Int} {f : List P2} {ms : List Int} (hf : bufOk f = true) (hm : memOk ms = true) (hl : (ms.length : Int) = c) (ha : f.all (lowA c) = true) (hne : 0 < f.length) : drOk f ms = true := by
  cases h : drOk f ms with
  | true => rfl
  | false =>
    obtain ⟨ns, h1, -⟩ := run_some hf hm hl ha
    rw [dr_false hf h hne] at h1
    cases h1
section
variable {p : Pr} {M : Ma} {k : Nat} {t : Th} {code : List Ins}
theorem daM_at (ht : M.ths[k]? = some t) : (daM M k t).ths[k]? = some (noBuf t) := List.getElem?_set_self (List.getElem?_eq_some_iff.1 ht).1
theorem daM_len : (daM M k t).ths.length = M.ths.length := by simp [daM]
theorem daM_nil (ht : M.ths[k]? = some t) (h : t.f = []) : daM M k t = M := by
  have h1 : noBuf t = t := by unfold noBuf; rw [← h]
  have h2 : daF t.f M.mem = M.mem := by
    rw [h]
    unfold daF
    split <;> rfl
  unfold daM
  rw [h1, h2, set_same ht]
theorem daM_ok (h : machOk p M = true) (ht : M.ths[k]? = some t) (hc : p.x[k]? = some code) : machOk p (daM M k t) = true := by
  obtain ⟨hp, hm, hml, -, -⟩ := machOk_parts h
  obtain ⟨h1, h2, hf, hv, hlo⟩ := thOk_parts (machOk_th h ht hc)
  obtain ⟨ns, h3, h4⟩ := run_some hf hm hml hlo
  refine mach_set h (List.getElem?_eq_some_iff.1 ht).1 hc ?_ (daF_len _ _) (thOk_of (inB_true h1) h2 rfl hv rfl)
  rw [daF_some hf hm h3]
  exact h4
/-- one drain on the way to the empty buffer -/
theorem daM_step (h : machOk p M = true) (ht : M.ths[k]? = some t) (hc : p.x[k]? = some code) (hne : 0 < t.f.length) :
    daM (drainF M k t) k (drainT M.mem t) = daM M k t ∧ (drainF M k t).ths[k]? = some (drainT M.mem t) ∧ (drainT M.mem t).f.length + 1 = t.f.length ∧ canMv p M ⟨k, true⟩ = true ∧ doAt p M ⟨k, true⟩ = drainF M k t := by
  obtain ⟨hp, hm, hml, htl, -⟩ := machOk_parts h
  obtain ⟨h1, h2, hf, hv, hlo⟩ := thOk_parts (machOk_th h ht hc)
  have hkl := (List.getElem?_eq_some_iff.1 ht).1
  have hd := dr_ok hf hm hml hlo hne
  obtain ⟨e1, e2, e3⟩ := dr_true hd
  obtain ⟨ns, h3, h4⟩ := run_some hf hm hml hlo
  obtain ⟨hm2, -, -⟩ := drain_ok (machOk_th h ht hc) hm
  refine ⟨?_, List.getElem?_set_self hkl, e3, ?_, ?_⟩
  · unfold daM drainF
    have e4 : daF (drainT M.mem t).f (drM t.f M.mem) = daF t.f M.mem := by
      rw [daF_some hf hm h3]
      exact daF_some e2 hm2 (by rw [show (drainT M.mem t).f = drB t.f M.mem from rfl, ← e1, h3])
    rw [e4, List.set_set]
    rfl
  · unfold canMv canAt
    rw [h, inB_of (by show (0 : Int) ≤ k ∧ (k : Int) ≤ _; omega)]
    simp [canT, canDr, List.getD_eq_getElem?_getD, ht, hne]
  · rw [doAt_eq ht hc]
    rfl
/-- with an empty buffer every instruction can be carried out -/
theorem noBuf_can (h : machOk p M = true) (ht : M.ths[k]? = some t) (hc : p.x[k]? = some code) (he : t.pc ≠ code.length) :
    canMv p (daM M k t) ⟨k, false⟩ = true ∧ doAt p (daM M k t) ⟨k, false⟩ = plE M k t code ∧ canEx (noBuf t) code = true := by
  have hok := daM_ok h ht hc
  have ht2 := daM_at ht
  obtain ⟨-, -, -, htl, -⟩ := machOk_parts h
  have hkl := (List.getElem?_eq_some_iff.1 ht).1
  have hx : canEx (noBuf t) code = true := by
    unfold canEx
    have : endT (noBuf t) code = false := by simp [endT, noBuf, he]
    rw [this]
    simp only [Bool.false_eq_true, if_false]
    split
    · rfl
    · simp [noBuf]
  refine ⟨?_, ?_, hx⟩
  · unfold canMv canAt
    rw [hok, inB_of (by show (0 : Int) ≤ k ∧ (k : Int) ≤ _; omega)]
    simp [canT, List.getD_eq_getElem?_getD, ht2, hc, hx]
  · rw [doAt_eq ht2 hc]
    rfl
theorem plE_at (ht : M.ths[k]? = some t) : (plE M k t code).ths[k]? = some (plT M t code) := by
  unfold plE execF effF
  exact List.getElem?_set_self (by rw [daM_len]; exact (List.getElem?_eq_some_iff.1 ht).1)
theorem plE_ok (h : machOk p M = true) (ht : M.ths[k]? = some t) (hc : p.x[k]? = some code) (he : t.pc ≠ code.length) : machOk p (plE M k t code) = true := by
  obtain ⟨h1, h2, -⟩ := noBuf_can h ht hc he
  rw [← h2]
  exact doAt_ok h1
theorem plM_ok (h : machOk p M = true) (ht : M.ths[k]? = some t) (hc : p.x[k]? = some code) (he : t.pc ≠ code.length) : machOk p (plM M k t code) = true := daM_ok (plE_ok h ht hc he) (plE_at ht) hc
theorem plM_len : (plM M k t code).ths.length = M.ths.length := by simp [plM, daM, plE, execF, effF]
end
/-- the parts of a plain step that can be done -/
theorem sp_parts {p : Pr} {M : Ma} {t : Int} (h : spB p M t = true) : ∃ (k : Nat) (u : Th) (code : List Ins), t = k ∧ machOk p M = true ∧ M.ths[k]? = some u ∧ p.x[k]? = some code ∧ u.pc ≠ code.length ∧ spF p M t = plM M k u code := by
  have h0 := h
  simp only [spB, Bool.and_eq_true] at h
  obtain ⟨⟨h1, h2⟩, h3⟩ := h
  have hb := inB_true h2
  obtain ⟨-, -, -, h4, -⟩ := machOk_parts h1
  have hk : t.toNat < M.ths.length := by omega
  have ht : M.ths[t.toNat]? = some M.ths[t.toNat] := List.getElem?_eq_getElem hk
  obtain ⟨code, hc⟩ := code_at h4 ht
  refine ⟨t.toNat, _, code, by omega, h1, ht, hc, ?_, ?_⟩
  · simpa [endT, List.getD_eq_getElem?_getD, ht, hc] using h3
  · unfold spF
    rw [h0]
    simp [List.getD_eq_getElem?_getD, ht, hc]
theorem spF_false {p : Pr} {M : Ma} {t : Int} (h : spB p M t = false) : spF p M t = M := by
  unfold spF
  rw [h]
  rfl
theorem spF_len (p : Pr) (M : Ma) (t : Int) : (spF p M t).ths.length = M.ths.length := by
  cases h : spB p M t with
  | false => rw [spF_false h]
  | true =>
    obtain ⟨k, u, code, -, -, -, -, -, e⟩ := sp_parts h
    rw [e, plM_len]
theorem spF_tot (p : Pr) (M : Ma) (t : Int) : totMa (spF p M t) ≤ totMa M + 40 := by
  cases h : spB p M t with
  | false => rw [spF_false h]; omega
  | true =>
    obtain ⟨k, u, code, -, h1, h2, h3, h4, e⟩ := sp_parts h
    have := machOk_tot (plM_ok h1 h2 h3 h4)
    rw [e]
    omega
end Go.Proofs.YtiflooopfpcelaaGreat
