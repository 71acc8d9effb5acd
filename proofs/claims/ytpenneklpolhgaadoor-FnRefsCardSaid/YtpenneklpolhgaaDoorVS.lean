/- What is known of memory while FnRefs plays a heap: plain lemmas for its loop. Condition: none. -/
import Derived.Test.YtpenneklpolhgaaDoorH18
import Derived.Test.YtpenneklpolhgaaDoorVR
namespace Go.Proofs.YtpenneklpolhgaaDoor
set_option maxRecDepth 20000
set_option linter.unusedSimpArgs false
set_option linter.unusedVariables false
open Go.ChangeShapes Go.WideShapes Go.ChangeAt Go.RowKit
set_option linter.unusedVariables false
/-- a heap in its box, references given, which were freed -/
structure RfS (w0 w : World) (gv lv v8 v9 : Value) (h : Hp) (rs : List P2) (fr : List Bool) (bs : List Nat) : Prop where
  box : Bk w w0.heap.size #[gv, lv] 29
  hp : OwnHp w gv lv h bs
  refs : w.ownsRow (w0.heap.size + 1) 33 2 v8 rs.length (flc2 rs)
  frees : w.ownsRow (w0.heap.size + 1) 4 1 v9 fr.length (bools fr)
  nb8 : ∀ q, v8.ownBlock = some q → q ∉ bs
  nb9 : ∀ q, v9.ownBlock = some q → q ∉ bs
  gh : w0.heap.size ∉ bs
  lt : w0.heap.size + 1 ≤ w.heap.size
  bel : Below w0.heap.size w0 w
section
variable {w0 w w2 : World} {gv lv v8 v9 : Value} {h : Hp} {rs : List P2} {fr : List Bool} {bs : List Nat}
theorem RfS.below (p : RfS w0 w gv lv v8 v9 h rs fr bs) (hb : Below w.heap.size w w2) : RfS w0 w2 gv lv v8 v9 h rs fr bs :=
  ⟨p.box.below hb p.box.lt, p.hp.below hb, ownsRow_below p.refs hb, ownsRow_below p.frees hb, p.nb8, p.nb9, p.gh, Nat.le_trans p.lt hb.size, p.bel.trans (hb.mono p.bel.size)⟩
theorem RfS.heap {gv2 lv2 : Value} {h2 : Hp} {bs2 : List Nat} (p : RfS w0 w gv lv v8 v9 h rs fr bs) (hb : Below w.heap.size w w2) (ho : OwnHp w2 gv2 lv2 h2 bs2) (hf : ∀ b ∈ bs2, w.heap.size ≤ b) :
    RfS w0 ((w2.setCell ⟨w0.heap.size, 0, none⟩ gv2).setCell ⟨w0.heap.size, 1, none⟩ lv2) gv2 lv2 v8 v9 h2 rs fr bs2 := by
  have q := p.below hb
  have hg := p.box.lt
  have n8 : ∀ (x : Nat), v8.ownBlock = some x → w0.heap.size + 1 ≤ x ∧ x < w.heap.size := fun x hx => p.refs.lt x hx
  have n9 : ∀ (x : Nat), v9.ownBlock = some x → w0.heap.size + 1 ≤ x ∧ x < w.heap.size := fun x hx => p.frees.lt x hx
  have g8 : v8.ownBlock ≠ some w0.heap.size := fun e => by have := n8 _ e; omega
  have g9 : v9.ownBlock ≠ some w0.heap.size := fun e => by have := n9 _ e; omega
  have hl := p.lt
  refine ⟨by simpa using (q.box.set_ 0 gv2).set_ 1 lv2, (ho.far fun b hm => by have := hf b hm; omega).far fun b hm => by have := hf b hm; omega,
    ownsRow_setCell_other (ownsRow_setCell_other q.refs (a := ⟨w0.heap.size, 0, none⟩) g8 gv2) (a := ⟨w0.heap.size, 1, none⟩) g8 lv2, ownsRow_setCell_other (ownsRow_setCell_other q.frees (a := ⟨w0.heap.size, 0, none⟩) g9 gv2) (a := ⟨w0.heap.size, 1, none⟩) g9 lv2,
    fun x hx hm => by have := n8 x hx; have := hf x hm; omega, fun x hx hm => by have := n9 x hx; have := hf x hm; omega, fun hm => by have := hf _ hm; omega, ?_,
    (q.bel.setCell (p := ⟨w0.heap.size, 0, none⟩) (Nat.le_refl _) gv2).setCell (p := ⟨w0.heap.size, 1, none⟩) (Nat.le_refl _) lv2⟩
  have := q.lt
  simpa [World.setCell] using this
theorem RfS.ref {v' : Value} {r : P2} (p : RfS w0 w gv lv v8 v9 h rs fr bs) (g : w.grownBy w2 v8.ownBlock) (ho : w2.ownsRow (w0.heap.size + 1) 33 2 v' (rs ++ [r]).length (flc2 (rs ++ [r]))) (hl : v'.ownBlock = v8.ownBlock ∨ v'.ownBlock = some w.heap.size) :
    RfS w0 w2 gv lv v' v9 h (rs ++ [r]) fr bs := by
  have n8 : ∀ (x : Nat), v8.ownBlock = some x → w0.heap.size + 1 ≤ x ∧ x < w.heap.size := fun x hx => p.refs.lt x hx
  have l := p.lt
  have hz := g.size
  exact ⟨p.box.grown g (fun k hk e => by have := n8 k hk; omega), p.hp.of_blocks hz fun b hb => g.block b (p.hp.lt b hb) fun e => p.nb8 b e.symm hb, ho, p.frees.kept g (ne_rows p.frees p.refs (by decide)),
    fun q hq hm => by
      rcases hl with e | e
      · exact p.nb8 q (e.symm.trans hq) hm
      · rw [e] at hq; injection hq with hq; have := p.hp.lt q hm; omega,
    p.nb9, p.gh, Nat.le_trans l hz, p.bel.grown g p.bel.size (fun k hk => by have := n8 k hk; omega)⟩
theorem RfS.flag {v' : Value} {x : Bool} (p : RfS w0 w gv lv v8 v9 h rs fr bs) (g : w.grownBy w2 v9.ownBlock) (ho : w2.ownsRow (w0.heap.size + 1) 4 1 v' (fr ++ [x]).length (bools (fr ++ [x]))) (hl : v'.ownBlock = v9.ownBlock ∨ v'.ownBlock = some w.heap.size) :
    RfS w0 w2 gv lv v8 v' h rs (fr ++ [x]) bs := by
  have n9 : ∀ (x : Nat), v9.ownBlock = some x → w0.heap.size + 1 ≤ x ∧ x < w.heap.size := fun x hx => p.frees.lt x hx
  have l := p.lt
  have hz := g.size
  exact ⟨p.box.grown g (fun k hk e => by have := n9 k hk; omega), p.hp.of_blocks hz fun b hb => g.block b (p.hp.lt b hb) fun e => p.nb9 b e.symm hb, p.refs.kept g (ne_rows p.refs p.frees (by decide)), ho,
    p.nb8, fun q hq hm => by
      rcases hl with e | e
      · exact p.nb9 q (e.symm.trans hq) hm
      · rw [e] at hq; injection hq with hq; have := p.hp.lt q hm; omega,
    p.gh, Nat.le_trans l hz, p.bel.grown g p.bel.size (fun k hk => by have := n9 k hk; omega)⟩
theorem RfS.setf {g c j : Nat} (p : RfS w0 w gv lv v8 (.slice (some ⟨g, 0, none⟩) fr.length c) h rs fr bs) :
    RfS w0 (w.setCell ⟨g, j, none⟩ (.bool true)) gv lv v8 (.slice (some ⟨g, 0, none⟩) fr.length c) h rs (fr.set j true) bs := by
  have n9 := p.frees.lt g rfl
  have l := p.lt
  have h8 : v8.ownBlock ≠ some g := by
    rcases ne_rows p.refs p.frees (by decide) with e | e
    · rw [e]; simp
    · simpa [Value.ownBlock] using e
  refine ⟨p.box.far (p := ⟨g, j, none⟩) (by show w0.heap.size ≠ g; omega) _, p.hp.far fun b hm e => p.nb9 g rfl (e ▸ hm), ownsRow_setCell_other p.refs (a := ⟨g, j, none⟩) h8 _, ?_, p.nb8, p.nb9, p.gh, by simpa [World.setCell] using l, p.bel.setCell (p := ⟨g, j, none⟩) (by show w0.heap.size ≤ g; omega) _⟩
  have := (p.frees.stored j (.bool true)).1
  rw [List.length_set]
  simpa [bools, List.map_set] using this
end
theorem owns_some {w : World} {base e size n c : Nat} {A : Option Addr} {xs : List Value} (h : w.ownsRow base e size (.slice A n c) n xs) (hn : 0 < n) : ∃ g, A = some ⟨g, 0, none⟩ := by
  obtain ⟨-, ⟨h1, -⟩ | ⟨g, cap, cur, h1, -⟩⟩ := h
  · injection h1 with _ h2 _
    omega
  · injection h1 with h2 _ _
    exact ⟨g, h2⟩
theorem stepS_stay {s : Ps} {op : P2} (h0 : op.a ≠ 0) (h1 : op.a = 1 → inB op.b 0 ((s.rs.length : Int) - 1) = false) : (stepS s op).h = s.h ∧ (stepS s op).rs = s.rs := by
  unfold stepS
  rw [if_neg h0]
  split
  · rename_i hi
    split
    · rename_i h2
      rw [h1 h2] at hi
      cases hi
    · split <;> exact ⟨rfl, rfl⟩
  · exact ⟨rfl, rfl⟩
theorem playK_glen (n : Int) (ops : List P2) : ∀ k, k ≤ ops.length → (playK n ops k).h.g.length = (newHp n).g.length
  | 0, _ => rfl
  | k + 1, hk => by
    have hx : ops[k]? = some (ops[k]'(by omega)) := List.getElem?_eq_getElem _
    rw [playK_succ hx, (stepS_len _ _).2.2.1]
    exact playK_glen n ops k (by omega)
end Go.Proofs.YtpenneklpolhgaaDoor
