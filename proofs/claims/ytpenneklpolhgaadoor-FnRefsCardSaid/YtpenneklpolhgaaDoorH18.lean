/- What is known of memory while the model plays a heap (package spec): plain lemmas for its loop. Condition: none. -/
import Derived.Test.YtpenneklpolhgaaDoorVP
import Derived.Test.YtpenneklpolhgaaDoorH4
import Derived.Maps.AppendAt
namespace Go.Proofs.YtpenneklpolhgaaDoor
set_option maxRecDepth 20000
set_option linter.unusedSimpArgs false
set_option linter.unusedVariables false
open Go.ChangeShapes Go.WideShapes Go.ChangeAt Go.RowKit
set_option linter.unusedVariables false
theorem ne_rows {w : World} {b1 b2 : Nat} {e1 e2 : TypeId} {s1 s2 : Nat} {v1 v2 : Value} {n1 n2 : Nat} {xs1 xs2 : List Value} (h1 : w.ownsRow b1 e1 s1 v1 n1 xs1) (h2 : w.ownsRow b2 e2 s2 v2 n2 xs2) (he : e1 ≠ e2) : v1.ownBlock = none ∨ v1.ownBlock ≠ v2.ownBlock := by
  obtain ⟨_, ⟨rfl, _⟩ | ⟨g1, c1, r1, rfl, _, hg1, _⟩⟩ := h1
  · exact .inl rfl
  · obtain ⟨_, ⟨rfl, _⟩ | ⟨g2, c2, r2, rfl, _, hg2, _⟩⟩ := h2
    · exact .inr (by simp [Value.ownBlock])
    · refine .inr fun e => ?_
      simp only [Value.ownBlock, Option.some.injEq] at e
      subst e
      rw [hg1] at hg2
      injection hg2 with hg2
      injection hg2 with _ hg2 _
      exact he hg2
theorem wpList_append_lie {P : Program} (w : World) {ops : Array Oper} {rest : List Oper} {o : Oper} {a : Act} {Q : Exit → Act → World → Prop} (hgd : o.guard = none) (s x : Operand) (t : TypeId)
    (ho : o.op = .call { callee := .builtin .append, args := #[s, x], argTypes := #[t, t] })
    (base : Nat) (e : TypeId) (i : TypeInfo) (z : Value) (size bytes : Nat) (ht : P.underlying t = some (.slice e)) (hi : P.info? e = some i) (hz : i.zero = some z)
    (hsize : i.size = size) (hby : i.bytes = bytes) (hzs : z.cells.size = size) (hsz : 0 < size)
    (v : Value) (n : Nat) (xs : List Value) (hs : a.eval s = v) (hown : w.ownsRow base e size v n xs)
    (ad : Addr) (m c : Nat) (news : List Value) (hx : a.eval x = .slice (some ad) m c) (hl : news.length = m * size) (hnews : ∀ j u, news[j]? = some u → w.cell? (ad.add j) = some u) (h1 : ∀ u ∈ news, u.oneCell' = true)
    (h63 : n + m ≤ maxLen) (hbytes : (n + m) * bytes ≤ 140737488355328) (hbase : base ≤ w.heap.size)
    (h : ∀ v' w', w'.ownsRow base e size v' (n + m) (xs ++ news) → w.grownBy w' v.ownBlock → (v'.ownBlock = v.ownBlock ∨ v'.ownBlock = some w.heap.size) → wpList P ops Q rest (a.put o.dst v') w') :
    wpList P ops Q (o :: rest) a w := by
  refine wpList_plain hgd fun K hK => ?_
  obtain ⟨v', w', hr, h2, h3, _, h5⟩ := run_append_own_at (P := P) w base t o.type e i z size bytes ht hi hz hsize hby hzs hsz v n xs hown ad m c news hl hnews h1 h63 hbytes hbase
  unfold Oper.wp execOp
  simp only [ho, resolve, invoke, builtin, Sem.run_bind, Sem.run_pure, Result.andThen_ok, List.map_toArray, List.map_cons, List.map_nil, hs, hx, hr]
  exact hK _ _ (h v' w' h2 h3 h5)
/-- a play in the model's hands -/
structure PlS (w0 w : World) (gH base : Nat) (gv lv v8 v9 : Value) (h : Hp) (rs : List P2) (t : List Int) (bs : List Nat) : Prop where
  box : Bk w gH #[gv, lv] 29
  hp : OwnHp w gv lv h bs
  refs : w.ownsRow base 33 2 v8 rs.length (flc2 rs)
  told : w.ownsRow base 3 1 v9 t.length (ints t)
  nb8 : ∀ q, v8.ownBlock = some q → q ∉ bs
  nb9 : ∀ q, v9.ownBlock = some q → q ∉ bs
  gh : gH ∉ bs
  lt : w0.heap.size < gH ∧ gH < base ∧ base ≤ w.heap.size
  res : Bk w w0.heap.size #[.slice none 0 0, .slice none 0 0] 29
  lo : ∀ b ∈ bs, w0.heap.size < b
  bel : Below w0.heap.size w0 w
section
variable {w0 w w2 : World} {gH base : Nat} {gv lv v8 v9 : Value} {h : Hp} {rs : List P2} {t : List Int} {bs : List Nat}
theorem PlS.below (p : PlS w0 w gH base gv lv v8 v9 h rs t bs) (hb : Below w.heap.size w w2) : PlS w0 w2 gH base gv lv v8 v9 h rs t bs :=
  ⟨p.box.below hb p.box.lt, p.hp.below hb, ownsRow_below p.refs hb, ownsRow_below p.told hb, p.nb8, p.nb9, p.gh, ⟨p.lt.1, p.lt.2.1, Nat.le_trans p.lt.2.2 hb.size⟩, p.res.below hb p.res.lt, p.lo, p.bel.trans (hb.mono p.bel.size)⟩
theorem PlS.heap {gv2 lv2 : Value} {h2 : Hp} {bs2 : List Nat} (p : PlS w0 w gH base gv lv v8 v9 h rs t bs) (hb : Below w.heap.size w w2) (ho : OwnHp w2 gv2 lv2 h2 bs2) (hf : ∀ b ∈ bs2, w.heap.size ≤ b) :
    PlS w0 ((w2.setCell ⟨gH, 0, none⟩ gv2).setCell ⟨gH, 1, none⟩ lv2) gH base gv2 lv2 v8 v9 h2 rs t bs2 := by
  have q := p.below hb
  have hg := p.box.lt
  have h1 := p.bel.size
  have n8 : ∀ (x : Nat), v8.ownBlock = some x → base ≤ x ∧ x < w.heap.size := fun x hx => p.refs.lt x hx
  have n9 : ∀ (x : Nat), v9.ownBlock = some x → base ≤ x ∧ x < w.heap.size := fun x hx => p.told.lt x hx
  have g8 : v8.ownBlock ≠ some gH := fun e => by have := n8 _ e; have := p.lt; omega
  have g9 : v9.ownBlock ≠ some gH := fun e => by have := n9 _ e; have := p.lt; omega
  have hl := p.lt
  refine ⟨by simpa using (q.box.set_ 0 gv2).set_ 1 lv2, (ho.far fun b hm => by have := hf b hm; omega).far fun b hm => by have := hf b hm; omega,
    ownsRow_setCell_other (ownsRow_setCell_other q.refs (a := ⟨gH, 0, none⟩) g8 gv2) (a := ⟨gH, 1, none⟩) g8 lv2, ownsRow_setCell_other (ownsRow_setCell_other q.told (a := ⟨gH, 0, none⟩) g9 gv2) (a := ⟨gH, 1, none⟩) g9 lv2,
    fun x hx hm => by have := n8 x hx; have := hf x hm; omega, fun x hx hm => by have := n9 x hx; have := hf x hm; omega, fun hm => by have := hf _ hm; omega, ⟨hl.1, hl.2.1, ?_⟩, (q.res.far (p := ⟨gH, 0, none⟩) (by show w0.heap.size ≠ gH; omega) gv2).far (p := ⟨gH, 1, none⟩) (by show w0.heap.size ≠ gH; omega) lv2,
    fun b hm => by have := hf b hm; omega, (q.bel.setCell (p := ⟨gH, 0, none⟩) (by show w0.heap.size ≤ gH; omega) gv2).setCell (p := ⟨gH, 1, none⟩) (by show w0.heap.size ≤ gH; omega) lv2⟩
  have := q.lt.2.2
  simpa [World.setCell] using this
theorem PlS.ref {v' : Value} {r : P2} (p : PlS w0 w gH base gv lv v8 v9 h rs t bs) (g : w.grownBy w2 v8.ownBlock) (ho : w2.ownsRow base 33 2 v' (rs ++ [r]).length (flc2 (rs ++ [r]))) (hl : v'.ownBlock = v8.ownBlock ∨ v'.ownBlock = some w.heap.size) :
    PlS w0 w2 gH base gv lv v' v9 h (rs ++ [r]) t bs := by
  have n8 : ∀ (x : Nat), v8.ownBlock = some x → base ≤ x ∧ x < w.heap.size := fun x hx => p.refs.lt x hx
  have l := p.lt
  have hz := g.size
  exact ⟨p.box.grown g (fun k hk e => by have := n8 k hk; omega), p.hp.of_blocks hz fun b hb => g.block b (p.hp.lt b hb) fun e => p.nb8 b e.symm hb, ho, p.told.kept g (ne_rows p.told p.refs (by decide)),
    fun q hq hm => by
      rcases hl with e | e
      · exact p.nb8 q (e.symm.trans hq) hm
      · rw [e] at hq; injection hq with hq; have := p.hp.lt q hm; omega,
    p.nb9, p.gh, ⟨l.1, l.2.1, Nat.le_trans l.2.2 hz⟩, p.res.grown g (fun k hk e => by have := n8 k hk; omega), p.lo, p.bel.grown g p.bel.size (fun k hk => by have := n8 k hk; omega)⟩
theorem PlS.tell {v' : Value} {x : Int} (p : PlS w0 w gH base gv lv v8 v9 h rs t bs) (g : w.grownBy w2 v9.ownBlock) (ho : w2.ownsRow base 3 1 v' (t ++ [x]).length (ints (t ++ [x]))) (hl : v'.ownBlock = v9.ownBlock ∨ v'.ownBlock = some w.heap.size) :
    PlS w0 w2 gH base gv lv v8 v' h rs (t ++ [x]) bs := by
  have n9 : ∀ (x : Nat), v9.ownBlock = some x → base ≤ x ∧ x < w.heap.size := fun x hx => p.told.lt x hx
  have l := p.lt
  have hz := g.size
  exact ⟨p.box.grown g (fun k hk e => by have := n9 k hk; omega), p.hp.of_blocks hz fun b hb => g.block b (p.hp.lt b hb) fun e => p.nb9 b e.symm hb, p.refs.kept g (ne_rows p.refs p.told (by decide)), ho,
    p.nb8, fun q hq hm => by
      rcases hl with e | e
      · exact p.nb9 q (e.symm.trans hq) hm
      · rw [e] at hq; injection hq with hq; have := p.hp.lt q hm; omega,
    p.gh, ⟨l.1, l.2.1, Nat.le_trans l.2.2 hz⟩, p.res.grown g (fun k hk e => by have := n9 k hk; omega), p.lo, p.bel.grown g p.bel.size (fun k hk => by have := n9 k hk; omega)⟩
end
end Go.Proofs.YtpenneklpolhgaaDoor
