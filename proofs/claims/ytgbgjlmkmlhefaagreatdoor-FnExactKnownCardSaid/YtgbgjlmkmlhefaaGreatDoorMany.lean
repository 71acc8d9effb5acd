/- Many rows owned at once: each in a block of its own, no two the same. Plain lemmas, no condition. -/
import Derived.Test.YtgbgjlmkmlhefaaGreatDoorTwo
namespace Go.Proofs.YtgbgjlmkmlhefaaGreatDoor
set_option maxRecDepth 20000
set_option linter.unusedSimpArgs false
set_option linter.unusedVariables false
open Go.RowKit
/-- a slice with its element's size, its length, its cells, its blocks -/
structure Row where
  v : Value
  s : Nat
  n : Nat
  cs : List Value
  bs : List Nat
def Row.own (r : Row) (w : World) : Prop := Own w r.v r.s r.n r.cs r.bs
def blks (rs : List Row) : List Nat := rs.flatMap Row.bs
/-- each of the rows is owned, no two share a block -/
structure OwnR (w : World) (rs : List Row) : Prop where
  own : ∀ r ∈ rs, r.own w
  nd : (blks rs).Nodup
theorem blks_cons (r : Row) (rs : List Row) : blks (r :: rs) = r.bs ++ blks rs := by simp [blks]
theorem blks_append (rs rs' : List Row) : blks (rs ++ rs') = blks rs ++ blks rs' := by simp [blks]
theorem mem_blks {rs : List Row} {b : Nat} : b ∈ blks rs ↔ ∃ r ∈ rs, b ∈ r.bs := by simp [blks]
theorem mem_blks_at {rs : List Row} {i : Nat} {r : Row} (h : rs[i]? = some r) : ∀ b ∈ r.bs, b ∈ blks rs := fun b hb => mem_blks.2 ⟨r, List.mem_of_getElem? h, hb⟩
section
variable {w w' : World} {rs rs' : List Row} {r r' : Row} {i j : Nat}
theorem Own.nodup {v : Value} {s n : Nat} {cs : List Value} {bs : List Nat} (h : Own w v s n cs bs) : bs.Nodup := by
  obtain ⟨A, c, rfl, hl, hc, hm, ⟨_, rfl⟩ | ⟨_, b, o, rfl, rfl, hb, hat⟩⟩ := h
  · simp
  · simp
theorem OwnR.nil (w : World) : OwnR w [] := ⟨by simp, by simp [blks]⟩
theorem OwnR.cons (h : r.own w) (H : OwnR w rs) (hd : ∀ b ∈ r.bs, b ∉ blks rs) : OwnR w (r :: rs) := by
  refine ⟨fun x hx => ?_, ?_⟩
  · rcases List.mem_cons.1 hx with rfl | hx
    · exact h
    · exact H.own x hx
  · rw [blks_cons, List.nodup_append]
    exact ⟨Own.nodup h, H.nd, fun a ha b hb e => hd a ha (e ▸ hb)⟩
theorem OwnR.head (h : OwnR w (r :: rs)) : r.own w := h.own r (by simp)
theorem OwnR.tail (h : OwnR w (r :: rs)) : OwnR w rs := ⟨fun x hx => h.own x (by simp [hx]), by have := h.nd; rw [blks_cons, List.nodup_append] at this; exact this.2.1⟩
theorem OwnR.apart (h : OwnR w (r :: rs)) : ∀ b ∈ r.bs, b ∉ blks rs := by
  have := h.nd
  rw [blks_cons, List.nodup_append] at this
  exact fun b hb hm => this.2.2 b hb b hm rfl
theorem OwnR.app (h : OwnR w rs) (H : OwnR w rs') (hd : ∀ b ∈ blks rs, b ∉ blks rs') : OwnR w (rs ++ rs') := by
  refine ⟨fun x hx => ?_, ?_⟩
  · rcases List.mem_append.1 hx with hx | hx
    · exact h.own x hx
    · exact H.own x hx
  · rw [blks_append, List.nodup_append]
    exact ⟨h.nd, H.nd, fun a ha b hb e => hd a ha (e ▸ hb)⟩
theorem OwnR.lt (h : OwnR w rs) : ∀ b ∈ blks rs, b < w.heap.size := by
  intro b hb
  obtain ⟨r, hr, hb⟩ := mem_blks.1 hb
  exact Own.lt (h.own r hr) b hb
theorem OwnR.of_blocks (h : OwnR w rs) (hs : w.heap.size ≤ w'.heap.size) (hk : ∀ b ∈ blks rs, w'.heap[b]? = w.heap[b]?) : OwnR w' rs :=
  ⟨fun r hr => Own.of_blocks (h.own r hr) hs fun b hb => hk b (mem_blks.2 ⟨r, hr, hb⟩), h.nd⟩
theorem OwnR.below (h : OwnR w rs) (hb : Below w.heap.size w w') : OwnR w' rs := h.of_blocks hb.size fun b hm => hb.block b (h.lt b hm)
theorem OwnR.only {ks : List Nat} (h : OwnR w rs) (hb : Only ks w w') (hd : ∀ b ∈ blks rs, b ∉ ks) : OwnR w' rs := h.of_blocks hb.size fun b hm => hb.block b (h.lt b hm) (hd b hm)
theorem OwnR.far {b k : Nat} {u : Value} (h : OwnR w rs) (hb : ∀ x ∈ blks rs, x ≠ b) : OwnR (w.setCell ⟨b, k, none⟩ u) rs :=
  h.only (Only.setCell w u) fun x hx hm => hb x hx (by simpa using hm)
theorem OwnR.at_ (h : OwnR w rs) (hi : rs[i]? = some r) : r.own w := h.own r (List.mem_of_getElem? hi)
theorem OwnR.other : ∀ {rs : List Row} {i j : Nat}, OwnR w rs → rs[i]? = some r → rs[j]? = some r' → i ≠ j → ∀ b ∈ r.bs, b ∉ r'.bs
  | [], i, j, h, hi, hj, hn => by simp at hi
  | x :: rs, 0, 0, h, hi, hj, hn => absurd rfl hn
  | x :: rs, 0, j + 1, h, hi, hj, hn => by
    simp only [List.getElem?_cons_zero, Option.some.injEq] at hi
    subst hi
    exact fun b hb hm => h.apart b hb (mem_blks_at (i := j) (by simpa using hj) b hm)
  | x :: rs, i + 1, 0, h, hi, hj, hn => by
    simp only [List.getElem?_cons_zero, Option.some.injEq] at hj
    subst hj
    exact fun b hb hm => h.apart b hm (mem_blks_at (i := i) (by simpa using hi) b hb)
  | x :: rs, i + 1, j + 1, h, hi, hj, hn => OwnR.other h.tail (i := i) (j := j) (by simpa using hi) (by simpa using hj) (by omega)
theorem blks_set : ∀ {rs : List Row} {i : Nat}, rs[i]? = some r → ∀ b ∈ blks (rs.set i r'), b ∈ r'.bs ∨ b ∈ blks rs
  | [], i, hi, b, hb => by simp at hi
  | x :: rs, 0, hi, b, hb => by
    rw [List.set_cons_zero, blks_cons] at hb
    rw [blks_cons]
    rcases List.mem_append.1 hb with hb | hb
    · exact .inl hb
    · exact .inr (List.mem_append.2 (.inr hb))
  | x :: rs, i + 1, hi, b, hb => by
    rw [List.set_cons_succ, blks_cons] at hb
    rw [blks_cons]
    rcases List.mem_append.1 hb with hb | hb
    · exact .inr (List.mem_append.2 (.inl hb))
    · rcases blks_set (by simpa using hi) b hb with h | h
      · exact .inl h
      · exact .inr (List.mem_append.2 (.inr h))
/-- one of the rows is replaced -/
theorem OwnR.set_ : ∀ {rs : List Row} {i : Nat}, OwnR w rs → rs[i]? = some r → Only r.bs w w' → r'.own w' → (∀ b ∈ r'.bs, b ∈ r.bs ∨ b ∉ blks rs) → OwnR w' (rs.set i r')
  | [], i, h, hi, ho, hr, hb => by simp at hi
  | x :: rs, 0, h, hi, ho, hr, hb => by
    simp only [List.getElem?_cons_zero, Option.some.injEq] at hi
    subst hi
    rw [List.set_cons_zero]
    refine OwnR.cons hr (h.tail.only ho fun b hm hk => h.apart b hk hm) fun b hm hk => ?_
    rcases hb b hm with h1 | h1
    · exact h.apart b h1 hk
    · exact h1 (by rw [blks_cons]; exact List.mem_append.2 (.inr hk))
  | x :: rs, i + 1, h, hi, ho, hr, hb => by
    have hi' : rs[i]? = some r := by simpa using hi
    rw [List.set_cons_succ]
    refine OwnR.cons (Own.only h.head ho fun b hm hk => h.apart b hm (mem_blks_at hi' b hk)) (OwnR.set_ h.tail hi' ho hr fun b hm => ?_) fun b hm hk => ?_
    · rcases hb b hm with h1 | h1
      · exact .inl h1
      · exact .inr fun hk => h1 (by rw [blks_cons]; exact List.mem_append.2 (.inr hk))
    · rcases blks_set hi' b hk with h1 | h1
      · rcases hb b h1 with h2 | h2
        · exact h.apart b hm (mem_blks_at hi' b h2)
        · exact h2 (by rw [blks_cons]; exact List.mem_append.2 (.inl hm))
      · exact h.apart b hm h1
/-- a block of one's own that is newer than the rows -/
theorem OwnR.fresh {b : Nat} (h : OwnR w rs) (hb : w.heap.size ≤ b) : b ∉ blks rs := fun hm => by have := h.lt b hm; omega
theorem OwnR.base {B : Nat} (hB : ∀ b ∈ blks rs, B ≤ b) (hi : rs[i]? = some r) (hb : ∀ b ∈ r'.bs, b ∈ r.bs ∨ B ≤ b) : ∀ b ∈ blks (rs.set i r'), B ≤ b := by
  intro b hm
  rcases blks_set hi b hm with h | h
  · rcases hb b h with h | h
    · exact hB b (mem_blks_at hi b h)
    · omega
  · exact hB b h
end
end Go.Proofs.YtgbgjlmkmlhefaaGreatDoor
