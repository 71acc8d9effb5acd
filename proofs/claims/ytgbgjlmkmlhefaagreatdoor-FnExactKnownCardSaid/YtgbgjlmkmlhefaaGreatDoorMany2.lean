/- Rows of one type beside a row of another that grows. Plain lemmas, no condition. -/
import Derived.Test.YtgbgjlmkmlhefaaGreatDoorMany
namespace Go.Proofs.YtgbgjlmkmlhefaaGreatDoor
set_option maxRecDepth 20000
set_option linter.unusedSimpArgs false
set_option linter.unusedVariables false
open Go.RowKit
/-- blocks whose elements are not of type T -/
def NT (T : TypeId) (w : World) (bs : List Nat) : Prop := ∀ b ∈ bs, ∃ cs t, t ≠ T ∧ Bk w b cs t
section
variable {w w' : World} {T : TypeId} {bs bs' : List Nat} {base n size : Nat} {v : Value} {xs : List Value} {rs : List Row}
theorem NT.of_blocks (h : NT T w bs) (hk : ∀ b ∈ bs, w'.heap[b]? = w.heap[b]?) : NT T w' bs := fun b hb => by
  obtain ⟨cs, t, ht, hc⟩ := h b hb
  exact ⟨cs, t, ht, (hk b hb).trans hc⟩
theorem NT.app (h : NT T w bs) (h' : NT T w bs') : NT T w (bs ++ bs') := fun b hb => by
  rcases List.mem_append.1 hb with hb | hb
  · exact h b hb
  · exact h' b hb
theorem NT.below (h : NT T w bs) (hl : ∀ b ∈ bs, b < w.heap.size) (hb : Below w.heap.size w w') : NT T w' bs := h.of_blocks fun b hm => hb.block b (hl b hm)
theorem NT.ne (h : NT T w bs) (hO : w.ownsRow base T size v n xs) {q : Nat} (hq : v.ownBlock = some q) : ∀ b ∈ bs, b ≠ q := by
  intro b hb he
  subst he
  obtain ⟨cs, t, ht, hc⟩ := h b hb
  obtain ⟨hl, ⟨rfl, rfl⟩ | ⟨g, cap, cur, rfl, h1, hg, h2⟩⟩ := hO
  · cases hq
  · injection hq with hq
    have hq' : g = b := hq
    subst hq'
    unfold Bk at hc
    rw [hg] at hc
    injection hc with hc
    injection hc with _ ht'
    exact ht ht'.symm
/-- a row of another type grows: the rows stay -/
theorem grow_rows {w7 : World} (hO : w.ownsRow base T size v n xs) (hI : OwnR w rs) (hN : NT T w (blks rs)) (hg : w.grownBy w7 v.ownBlock) : OwnR w7 rs ∧ NT T w7 (blks rs) := by
  have hk : ∀ b ∈ blks rs, w7.heap[b]? = w.heap[b]? := fun b hb => hg.block b (hI.lt b hb) fun e => hN.ne hO e.symm b hb rfl
  exact ⟨hI.of_blocks hg.size hk, hN.of_blocks hk⟩
theorem owns_bk (hO : w.ownsRow base T size v n xs) {bs : List Nat} {s m : Nat} {cs : List Value} (h : Own w v s m cs bs) : ∀ b ∈ bs, ∃ ds, Bk w b ds T := by
  intro b hb
  obtain ⟨hl, ⟨rfl, rfl⟩ | ⟨g, cap, cur, rfl, h1, hg, h2⟩⟩ := hO
  · obtain ⟨A, c, he, _, _, _, ⟨_, rfl⟩ | ⟨_, b', o, rfl, _⟩⟩ := h
    · simp at hb
    · cases he
  · obtain ⟨A, c, he, _, _, _, ⟨_, rfl⟩ | ⟨_, b', o, rfl, rfl, _⟩⟩ := h
    · simp at hb
    · injection he with h1
      injection h1 with h1
      injection h1 with h1
      simp at hb
      subst hb h1
      exact ⟨_, hg⟩
theorem ne_of_nt {b0 : List Nat} (hN : NT T w bs) (hB : ∀ b ∈ b0, ∃ ds, Bk w b ds T) : ∀ b ∈ b0, b ∉ bs := by
  intro b hb hm
  obtain ⟨ds, hd⟩ := hB b hb
  obtain ⟨cs, t, ht, hc⟩ := hN b hm
  unfold Bk at hd hc
  rw [hd] at hc
  injection hc with hc
  injection hc with _ ht'
  exact ht ht'.symm
end
end Go.Proofs.YtgbgjlmkmlhefaaGreatDoor
