/- The last step that all laws share: a call that answers true and leaves all old memory alone meets the row's post. And the reading of arguments. -/
import Derived.Test.YtkpgjeeofghldaaBase
import Derived.Carry
import Derived.ChangeSlices
namespace Go.Proofs.Ytkpgjeeofghldaa
set_option maxRecDepth 20000
set_option linter.unusedSimpArgs false
set_option linter.unusedVariables false
open Go.RowKit Go.WideShapes Go.ChangeShapes Go.ChangeAt
section
variable {H : Type} {enc : TypeId × Value → H} {P : Program}
theorem args_stay (hl : laidOutB P = true) {W W' : World} (hb : Below W.heap.size W W') : ∀ {ts : List TypeId} {vs : List Value} {ds : List (DataW H)} {ps : List MemPlace}, (∀ t ∈ ts, P.readableRec t = true ∧ t < P.types.size) →
    DataW.TrodAll enc P W 0 (fun _ => true) true ts vs ds ps → (∀ x ∈ ps, x.block < W.heap.size) → DataW.TrodAll enc P W' 0 (fun b => decide (b < W.heap.size)) true ts vs ds ps
  | [], vs, ds, ps, _, h, _ => by
    obtain ⟨rfl, rfl, rfl⟩ := trodAll_nil h
    exact trodAll_mk0
  | t :: ts, vs, ds, ps, hr, h, hp => by
    obtain ⟨v, vs1, d, ds1, p, q, rfl, rfl, rfl, h1, h2⟩ := trodAll_cons h
    obtain ⟨r1, r2⟩ := hr t (by simp)
    have g1 := Below.trod hl r1 r2 h1 hb fun x hx => hp x (by simp [hx])
    exact trodAll_cons_mk g1 (args_stay hl hb (fun t ht => hr t (by simp [ht])) h2 fun x hx => hp x (by simp [hx]))
theorem post_law {f : Func} {s : ChangeSpec} {apart : Bool} {W W' : World} {args : Array Value} {ds gs : List (DataW H)} {before : List MemPlace} {tb : TypeId} (hl : laidOutB P = true)
    (hfn : s.fn H (ds ++ gs) = { results := [.lit (.bool true)], args := ds }) (hv : s.vars = []) (hrt : f.resultTypes = #[tb]) (htb : P.underlying tb = some .bool)
    (hread : ∀ t ∈ f.params.toList, P.readableRec t = true ∧ t < P.types.size) (hW : DataW.Whole enc P f.params.toList s.vars apart W args.toList ds gs before) (hb : Below W.heap.size W W') :
    s.post enc P f apart true false false W args (.bool true) W' := by
  have hlt : ∀ p ∈ before, p.block < W.heap.size := fun p hp => hW.lt p hp
  obtain ⟨p, q, hA, hV, hpq, hz, hn⟩ := id hW
  rw [hv] at hV
  obtain ⟨rfl, rfl⟩ := trodVars_none hV
  rw [List.append_nil] at hpq
  subst hpq
  refine ⟨ds, [], before, [], before, [], hW, ?_, ?_, ?_, World.keptBut_mono (fun p hp => ⟨hp, .inr (.inl hp)⟩) (hb.frame (· ∈ before)), fun h => by cases h⟩
  · rw [hfn, hrt]
    exact trodAll_cons_mk (shut_bool htb _) trodAll_mk0
  · rw [hfn]
    exact args_stay hl hb hread hA hlt
  · rw [hfn, hv]
    rfl
variable {w : World} {base : Nat}
/-- a []int that came in -/
theorem read_ints {t e : TypeId} {n : Nat} {c : Value} {y : DataW H × List MemPlace} (ht : P.underlying t = some (.slice e)) (he : P.underlying e = some (.int .i64)) (hc : P.cellsOf e = 1)
    (h : DataW.trod enc P w 0 (fun _ => true) true n t [c] = some y) : ∃ xs : List Int, RdA w c 1 xs.length (ints xs) ∧ ∀ x ∈ xs, (Lit.int .i64 x).wf = true := by
  rcases open_ints ht he hc h with ⟨h0, _⟩ | ⟨a, len, cap, zs, h0, _, hl, hm, hz, _, hcell, hw⟩
  · injection h0 with h0
    subst h0
    exact ⟨[], ⟨none, 0, rfl, by simp [ints], Nat.le_refl _, by simp [maxLen], fun h => absurd h (by simp)⟩, by simp⟩
  · injection h0 with h0
    subst h0
    simp only [if_true] at hz
    have hll : (zs.take len).length = len := by rw [List.length_take]; omega
    refine ⟨zs.take len, ⟨some a, cap, by rw [hll], by rw [ints_len, Nat.mul_one], by omega, hm, fun hp => ⟨a, rfl, ?_, fun j u hu => ?_⟩⟩, fun x hx => hw x (List.mem_of_mem_take hx)⟩
    · have := block_lt_of_cell (hcell 0 (by omega))
      rwa [add_block] at this
    · have hj : j < (zs.take len).length := by have := (List.getElem?_eq_some_iff.1 hu).1; simpa [ints] using this
      rw [ints_at hj] at hu
      injection hu with hu
      subst hu
      rw [hcell j (by omega)]
      rw [hll] at hj
      simp [List.getD_eq_getElem?_getD, hj]
/-- a struct with one field, a []int -/
theorem read_mem {r : Reach} {t t0 e : TypeId} {f0 : Field} {v : Value} {d : DataW H} {p : List MemPlace} (hs : P.underlying t = some (.struct #[f0])) (h0 : f0.type = t0 ∧ f0.offset = 0) (hk : P.cellsOf t0 = 1) (hC : P.cellsOf t = 1)
    (ht : P.underlying t0 = some (.slice e)) (he : P.underlying e = some (.int .i64)) (hc : P.cellsOf e = 1)
    (hv : Value.okWide P w r base t v) (h : DataW.Trod enc P w 0 (fun _ => true) true t v d p) : ∃ (c : Value) (xs : List Int), v = .agg #[c] ∧ RdA w c 1 xs.length (ints xs) ∧ ∀ x ∈ xs, (Lit.int .i64 x).wf = true := by
  obtain ⟨cs, rfl, hsz⟩ := okWide_struct hs hv
  obtain ⟨l⟩ := cs
  match l, hsz.trans hC with
  | [c], _ =>
    obtain ⟨fuel, hf⟩ := h
    obtain ⟨y0, n, _, _, hy⟩ := trod_struct1 hs hf
    rw [h0.1, h0.2, hk] at hy
    obtain ⟨xs, h1, h2⟩ := read_ints ht he hc (by simpa [Value.cells] using hy)
    exact ⟨c, xs, rfl, h1, h2⟩
end
end Go.Proofs.Ytkpgjeeofghldaa
