/- ParseMem, the model's way. -/
import Derived.Test.YtgbgjlmkmlhefaaGreatDoorP1
namespace Go.Proofs.YtgbgjlmkmlhefaaGreatDoor
set_option maxRecDepth 20000
set_option linter.unusedSimpArgs false
set_option linter.unusedVariables false
open Go.ChangeShapes Go.WideShapes Go.ChangeAt Go.RowKit
set_option linter.unusedVariables false
def listF (ws : List (List UInt8)) : Option (List Int) := ws.mapM readF
def memF (o : Option (List Int)) : Option (List Int) := o.bind fun xs => if memOk xs then some xs else none
def specParseF (s : List UInt8) : Option (List Int) := if 144 < s.length then none else memF (listF (partsF 32 s))
theorem listF_take_succ {ws : List (List UInt8)} {k : Nat} {xs : List Int} {p : List UInt8} {x : Int} (h : listF (ws.take k) = some xs) (hp : ws[k]? = some p) (hx : readF p = some x) : listF (ws.take (k + 1)) = some (xs ++ [x]) := by
  unfold listF at *
  rw [List.take_add_one, hp, List.mapM_append, h]
  simp [hx]
theorem listF_none {ws : List (List UInt8)} {k : Nat} {p : List UInt8} (hp : ws[k]? = some p) (hx : readF p = none) : listF ws = none := by
  obtain ⟨hk, he⟩ := List.getElem?_eq_some_iff.1 hp
  unfold listF
  rw [← List.take_append_drop k ws, List.drop_eq_getElem_cons hk, he, List.mapM_append]
  cases (ws.take k).mapM readF with
  | none => rfl
  | some xs => simp [hx]
theorem partsF_part (c : UInt8) : ∀ (s p : List UInt8), p ∈ partsF c s → p.length ≤ s.length
  | [], p, h => by
    simp [partsF] at h
    simp [h]
  | b :: r, p, h => by
    have ih := partsF_part c r
    unfold partsF at h
    split at h
    · rcases List.mem_cons.1 h with rfl | h
      · simp
      · have := ih p h
        simp
        omega
    · split at h
      · rename_i q qs hq
        rcases List.mem_cons.1 h with rfl | h
        · have := ih q (by rw [hq]; simp)
          simp
          omega
        · have := ih p (by rw [hq]; simp [h])
          simp
          omega
      · simp at h
        simp [h]
theorem owns_below {w w' : World} {B : Nat} {T : TypeId} {size n : Nat} {v : Value} {cs : List Value} (h : w.ownsRow B T size v n cs) (hb : Below w.heap.size w w') : w'.ownsRow B T size v n cs := by
  obtain ⟨hl, h | ⟨g, cap, cur, h1, h2, h3, h4⟩⟩ := h
  · exact ⟨hl, .inl h⟩
  · exact ⟨hl, .inr ⟨g, cap, cur, h1, h2, (hb.block g (Array.getElem?_eq_some_iff.1 h3).1).trans h3, h4⟩⟩
theorem only_below {w w1 w2 : World} {bs : List Nat} (h : Only bs w w1) (hb : Below w.heap.size w1 w2) : Only bs w w2 :=
  ⟨hb.os.trans h.os, hb.tape.trans h.tape, hb.output.trans h.output, Nat.le_trans h.size hb.size, fun k hk hn => (hb.block k hk).trans (h.block k hk hn)⟩
theorem own_nil {w : World} {B : Nat} {T : TypeId} : w.ownsRow B T 1 (.slice none 0 0) 0 [] := ⟨rfl, .inl ⟨rfl, rfl⟩⟩
theorem strs_at {L : List (List UInt8)} {k : Nat} {p : List UInt8} (h : L[k]? = some p) : (strs L)[k]? = some (str p) := by simp [strs, h]
end Go.Proofs.YtgbgjlmkmlhefaaGreatDoor
