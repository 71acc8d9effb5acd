/- The reading of arguments that are machines, moves, lists of moves. -/
import Derived.Test.YtiflooopfpcelacDoorLaw3
import Derived.Test.YtiflooopfpcelacDoorMach
import Derived.Test.YtiflooopfpcelacDoorM9
import Derived.Deep.Strs
namespace Go.Proofs.YtiflooopfpcelacDoor
set_option maxRecDepth 20000
set_option linter.unusedSimpArgs false
set_option linter.unusedVariables false
open Go.RowKit Go.WideShapes Go.ChangeShapes Go.ChangeAt Go.Joins
section
variable {H : Type} {enc : TypeId × Value → H} {P : Program} {w : World} {base : Nat} {r : Reach}
/-- what the reading of a thread asks of its type: a counter, values, a buffer -/
structure ThType (P : Program) (t : TypeId) : Prop where
  ex : ∃ (f0 f1 f2 : Field) (e2 : TypeId) (g0 g1 : Field) (e1 : TypeId), P.underlying t = some (.struct #[f0, f1, f2]) ∧ P.cellsOf t = 3 ∧ (f0.offset = 0 ∧ f1.offset = 1 ∧ f2.offset = 2) ∧ (P.cellsOf f0.type = 1 ∧ P.cellsOf f1.type = 1 ∧ P.cellsOf f2.type = 1) ∧
    P.underlying f0.type = some (.int .i64) ∧ P.underlying f1.type = some (.slice e1) ∧ P.underlying e1 = some (.int .i64) ∧ P.cellsOf e1 = 1 ∧
    P.underlying f2.type = some (.slice e2) ∧ P.underlying e2 = some (.struct #[g0, g1]) ∧ P.cellsOf e2 = 2 ∧ (g0.offset = 0 ∧ g1.offset = 1) ∧ (P.cellsOf g0.type = 1 ∧ P.cellsOf g1.type = 1) ∧ (P.underlying g0.type = some (.int .i64) ∧ P.underlying g1.type = some (.int .i64))
/-- every integer of the thread is a 64-bit one -/
def ThR (t : Th) : Prop := (Lit.int .i64 t.pc).wf = true ∧ (∀ x ∈ t.v, (Lit.int .i64 x).wf = true) ∧ ∀ x ∈ t.f, P2R x
theorem cells_th {t : TypeId} (hT : ThType P t) {n : Nat} {cs : List Value} {y : DataW H × List MemPlace} (h : DataW.trod enc P w 0 (fun _ => true) true n t cs = some y) :
    ∃ q : Th × (Value × Value), cs = thC q.1 q.2 ∧ (RdA w q.2.1 1 q.1.v.length (ints q.1.v) ∧ RdA w q.2.2 2 q.1.f.length (flc2 q.1.f)) ∧ ThR q.1 := by
  obtain ⟨f0, f1, f2, e2, g0, g1, e1, hs, hC, ho, hk, h0, h1, he1, hc1, h2, he2, hc2, hgo, hgk, hgi⟩ := hT.ex
  obtain ⟨y0, y1, y2, n', hx, hlen, a0, a1, a2⟩ := Deep.trod_struct3 hs h
  rw [hC] at hlen
  match cs, hlen with
  | [c0, c1, c2], _ =>
    rw [ho.1, hk.1] at a0
    rw [ho.2.1, hk.2.1] at a1
    rw [ho.2.2, hk.2.2] at a2
    obtain ⟨a, ha, -, wa⟩ := DataW.trod_int h0 a0
    obtain ⟨xs, hxs, wxs⟩ := read_ints h1 he1 hc1 (c := c1) (by simpa using a1)
    obtain ⟨zs, hzs, wzs⟩ := read_p2s h2 he2 hc2 hgo hgk hgi (c := c2) (by simpa using a2)
    simp at ha
    subst ha
    exact ⟨(⟨a, xs, zs⟩, (c1, c2)), rfl, ⟨hxs, hzs⟩, wa, wxs, wzs⟩
theorem thCs_of : ∀ (qs : List (Th × (Value × Value))), qs.flatMap (fun q => thC q.1 q.2) = thCs (qs.map Prod.fst) (qs.map Prod.snd)
  | [] => rfl
  | q :: qs => by rw [List.flatMap_cons, thCs_of qs]; rfl
theorem read_ths {t e : TypeId} {n : Nat} {c : Value} {y : DataW H × List MemPlace} (ht : P.underlying t = some (.slice e)) (hT : ThType P e) (h : DataW.trod enc P w 0 (fun _ => true) true n t [c] = some y) :
    ∃ ths : List Th, RdATS w c ths ∧ ∀ x ∈ ths, ThR x := by
  haveI : Inhabited (Th × (Value × Value)) := ⟨(⟨0, [], []⟩, (.slice none 0 0, .slice none 0 0))⟩
  obtain ⟨f0, f1, f2, e2, g0, g1, e1, hs, hC, -⟩ := hT.ex
  obtain ⟨qs, h1, h2⟩ := read_sl (α := Th × (Value × Value)) (fun q => thC q.1 q.2) (fun q => (RdA w q.2.1 1 q.1.v.length (ints q.1.v) ∧ RdA w q.2.2 2 q.1.f.length (flc2 q.1.f)) ∧ ThR q.1) 3 (fun _ => rfl) (by omega) ht hC
    (fun n cs y h => by obtain ⟨q, hq, h1, h2⟩ := cells_th hT h; exact ⟨q, hq, h1, h2⟩) h
  rw [thCs_of] at h1
  refine ⟨qs.map Prod.fst, ⟨qs.map Prod.snd, by simp, by simpa using h1, fun k t p hk hp => ?_⟩, fun x hx => ?_⟩
  · rw [List.getElem?_map] at hk hp
    cases hq : qs[k]? with
    | none => rw [hq] at hk; simp at hk
    | some q =>
      rw [hq] at hk hp
      simp only [Option.map_some, Option.some.injEq] at hk hp
      subst hk hp
      exact (h2 q (List.mem_of_getElem? hq)).1
  · obtain ⟨q, hq, rfl⟩ := List.mem_map.1 hx
    exact (h2 q hq).2
/-- every integer of the machine is a 64-bit one -/
def MaR (M : Ma) : Prop := (∀ x ∈ M.mem, (Lit.int .i64 x).wf = true) ∧ ∀ x ∈ M.ths, ThR x
theorem read_machine {t t2 e : TypeId} {f0 f1 m0 : Field} {v : Value} {d : DataW H} {p : List MemPlace} (hs : P.underlying t = some (.struct #[f0, f1])) (hC : P.cellsOf t = 2) (ho : f0.offset = 0 ∧ f1.offset = 1) (hk : P.cellsOf f0.type = 1 ∧ P.cellsOf f1.type = 1)
    (h0 : P.underlying f0.type = some (.struct #[m0])) (hm : m0.offset = 0) (hmk : P.cellsOf m0.type = 1) (hm1 : P.underlying m0.type = some (.slice e)) (he : P.underlying e = some (.int .i64)) (hec : P.cellsOf e = 1)
    (h1 : P.underlying f1.type = some (.slice t2)) (hT : ThType P t2)
    (hv : Value.okWide P w r base t v) (h : DataW.Trod enc P w 0 (fun _ => true) true t v d p) : ∃ (c u : Value) (M : Ma), v = .agg #[c, u] ∧ RdAMa w c u M ∧ MaR M := by
  obtain ⟨cs, rfl, hsz⟩ := okWide_struct hs hv
  obtain ⟨l⟩ := cs
  match l, hsz.trans hC with
  | [c0, c1], _ =>
    obtain ⟨fuel, hf⟩ := h
    obtain ⟨y0, y1, n, _, _, hy0, hy1⟩ := trod_struct2 hs hf
    rw [ho.1, hk.1] at hy0
    rw [ho.2, hk.2] at hy1
    obtain ⟨z0, n', _, _, hz⟩ := trod_struct1 h0 hy0
    rw [hm, hmk] at hz
    obtain ⟨xs, hx, wx⟩ := read_ints hm1 he hec (c := c0) (by simpa [Value.cells] using hz)
    obtain ⟨ths, hth, wth⟩ := read_ths h1 hT (c := c1) (by simpa [Value.cells] using hy1)
    exact ⟨c0, c1, ⟨xs, ths⟩, rfl, ⟨hx, hth⟩, wx, wth⟩
/-- a program that came in: its number of cells is a 64-bit integer -/
theorem read_progW {t t0 t1 t2 e : TypeId} {g0 g1 f0 f1 f2 f3 : Field} {v : Value} {d : DataW H} {p : List MemPlace} (hp : P.underlying t = some (.struct #[g0, g1])) (hgo : g0.offset = 0 ∧ g1.offset = 1) (hgt : g0.type = t0 ∧ g1.type = t1) (hk0 : P.cellsOf t0 = 1 ∧ P.cellsOf t1 = 1) (hC0 : P.cellsOf t = 2) (ht0 : P.underlying t0 = some (.int .i64))
    (ht1 : P.underlying t1 = some (.slice t2)) (hC1 : P.cellsOf t2 = 1) (ht2 : P.underlying t2 = some (.slice e)) (hs : P.underlying e = some (.struct #[f0, f1, f2, f3])) (hC : P.cellsOf e = 4)
    (ho : f0.offset = 0 ∧ f1.offset = 1 ∧ f2.offset = 2 ∧ f3.offset = 3) (hk : P.cellsOf f0.type = 1 ∧ P.cellsOf f1.type = 1 ∧ P.cellsOf f2.type = 1 ∧ P.cellsOf f3.type = 1)
    (hi : P.underlying f0.type = some (.int .i64) ∧ P.underlying f1.type = some (.int .i64) ∧ P.underlying f2.type = some (.int .i64) ∧ P.underlying f3.type = some (.int .i64))
    (hv : Value.okWide P w r base t v) (h : DataW.Trod enc P w 0 (fun _ => true) true t v d p) : ∃ (c : Value) (p : Pr), v = .agg #[.int .i64 p.c, c] ∧ RdASS w c p.x ∧ (Lit.int .i64 p.c).wf = true := by
  obtain ⟨cs, rfl, hsz⟩ := okWide_struct hp hv
  obtain ⟨l⟩ := cs
  match l, hsz.trans hC0 with
  | [c0, c1], _ =>
    obtain ⟨fuel, hf⟩ := h
    obtain ⟨y0, y1, n, _, _, hy0, hy1⟩ := trod_struct2 hp hf
    rw [hgo.1, hgt.1, hk0.1] at hy0
    rw [hgo.2, hgt.2, hk0.2] at hy1
    obtain ⟨a, ha, -, wa⟩ := DataW.trod_int ht0 hy0
    obtain ⟨xss, hx⟩ := read_codes ht1 hC1 ht2 hs hC ho hk hi (by simpa [Value.cells] using hy1)
    simp [Value.cells] at ha
    subst ha
    exact ⟨c1, ⟨a, xss⟩, rfl, hx, wa⟩
/-- a move's number is a 64-bit one -/
def MvR (m : Mv) : Prop := (Lit.int .i64 m.t).wf = true
theorem cells_mv {t : TypeId} {f0 f1 : Field} {n : Nat} {cs : List Value} {y : DataW H × List MemPlace} (hs : P.underlying t = some (.struct #[f0, f1])) (hC : P.cellsOf t = 2) (ho : f0.offset = 0 ∧ f1.offset = 1) (hk : P.cellsOf f0.type = 1 ∧ P.cellsOf f1.type = 1)
    (hi : P.underlying f0.type = some (.int .i64) ∧ P.underlying f1.type = some .bool)
    (h : DataW.trod enc P w 0 (fun _ => true) true n t cs = some y) : ∃ x : Mv, cs = mvC x ∧ MvR x := by
  obtain ⟨y0, y1, n', hx, hlen, h0, h1⟩ := trod_struct2 hs h
  rw [hC] at hlen
  match cs, hlen with
  | [c0, c1], _ =>
    rw [ho.1, hk.1] at h0
    rw [ho.2, hk.2] at h1
    obtain ⟨a, ha, -, wa⟩ := DataW.trod_int hi.1 h0
    obtain ⟨b, hb, -⟩ := DataW.trod_bool hi.2 h1
    simp at ha hb
    subst ha hb
    exact ⟨⟨a, b⟩, rfl, wa⟩
theorem read_move {t : TypeId} {f0 f1 : Field} {v : Value} {d : DataW H} {p : List MemPlace} (hs : P.underlying t = some (.struct #[f0, f1])) (hC : P.cellsOf t = 2) (ho : f0.offset = 0 ∧ f1.offset = 1) (hk : P.cellsOf f0.type = 1 ∧ P.cellsOf f1.type = 1)
    (hi : P.underlying f0.type = some (.int .i64) ∧ P.underlying f1.type = some .bool)
    (hv : Value.okWide P w r base t v) (h : DataW.Trod enc P w 0 (fun _ => true) true t v d p) : ∃ x : Mv, v = .agg #[.int .i64 x.t, .bool x.d] ∧ MvR x := by
  obtain ⟨cs, rfl, hsz⟩ := okWide_struct hs hv
  obtain ⟨fuel, hf⟩ := h
  obtain ⟨x, hx, hw⟩ := cells_mv hs hC ho hk hi hf
  refine ⟨x, ?_, hw⟩
  have : cs.toList = mvC x := by simpa [Value.cells] using hx
  cases cs
  simp only at this
  subst this
  rfl
theorem read_moves {t e : TypeId} {f0 f1 : Field} {n : Nat} {c : Value} {y : DataW H × List MemPlace} (ht : P.underlying t = some (.slice e)) (hs : P.underlying e = some (.struct #[f0, f1])) (hC : P.cellsOf e = 2) (ho : f0.offset = 0 ∧ f1.offset = 1) (hk : P.cellsOf f0.type = 1 ∧ P.cellsOf f1.type = 1)
    (hi : P.underlying f0.type = some (.int .i64) ∧ P.underlying f1.type = some .bool)
    (h : DataW.trod enc P w 0 (fun _ => true) true n t [c] = some y) : ∃ xs : List Mv, RdA w c 2 xs.length (mvCs xs) ∧ ∀ x ∈ xs, MvR x := by
  haveI : Inhabited Mv := ⟨⟨0, false⟩⟩
  obtain ⟨xs, h1, h2⟩ := read_sl (α := Mv) mvC MvR 2 (fun _ => rfl) (by omega) ht hC (fun n cs y h => cells_mv hs hC ho hk hi h) h
  exact ⟨xs, h1, h2⟩
end
theorem thTypeL : ThType Tryd.prog 136 :=
  ⟨_, _, _, 83, _, _, 3, Tryd.underlying136, by kernel_rfl, ⟨rfl, rfl, rfl⟩, by decide +kernel, Tryd.underlying3, Tryd.underlying41, Tryd.underlying3, by kernel_rfl, Tryd.underlying34, Tryd.underlying83, by kernel_rfl, ⟨rfl, rfl⟩, by decide +kernel, Tryd.underlying3, Tryd.underlying3⟩
end Go.Proofs.YtiflooopfpcelacDoor
