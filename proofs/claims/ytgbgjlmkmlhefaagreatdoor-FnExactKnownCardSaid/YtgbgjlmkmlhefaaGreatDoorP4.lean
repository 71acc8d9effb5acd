/- The two ways to read a memory's text say the same (no program in this text but its names). -/
import Derived.Test.YtgbgjlmkmlhefaaGreatDoorP2
import Derived.Lib.Split
namespace Go.Proofs.YtgbgjlmkmlhefaaGreatDoor
set_option maxRecDepth 20000
set_option linter.unusedSimpArgs false
set_option linter.unusedVariables false
open Go.ChangeShapes Go.WideShapes Go.ChangeAt Go.RowKit
set_option linter.unusedVariables false
theorem index_split (c : UInt8) : ∀ (s : List UInt8), ((∀ b ∈ s, b ≠ c) ∧ Lib.index s [c] = -1) ∨ ∃ p r, s = p ++ c :: r ∧ (∀ b ∈ p, b ≠ c) ∧ Lib.index s [c] = (p.length : Int)
  | [] => .inl ⟨by simp, rfl⟩
  | b :: s => by
    rw [Lib.index_one]
    unfold Lib.indexByte
    by_cases hb : b = c
    · exact .inr ⟨[], s, by simp [hb], by simp, by simp [hb]⟩
    · have ih := index_split c s
      rw [Lib.index_one] at ih
      rcases ih with ⟨h1, h2⟩ | ⟨p, r, rfl, h1, h2⟩
      · refine .inl ⟨?_, by simp [hb, h2]⟩
        intro x hx
        rcases List.mem_cons.1 hx with rfl | hx
        · exact hb
        · exact h1 x hx
      · refine .inr ⟨b :: p, r, rfl, ?_, ?_⟩
        · intro x hx
          rcases List.mem_cons.1 hx with rfl | hx
          · exact hb
          · exact h1 x hx
        · rw [h2]
          have : ((p.length : Int) == -1) = false := by simp
          simp [hb, this]
theorem splitK_zero (c : UInt8) (s : List UInt8) : Lib.splitK [c] 0 0 s = [s] := rfl
theorem splitK_miss (c : UInt8) (k : Nat) (s : List UInt8) (h : Lib.index s [c] = -1) : Lib.splitK [c] 0 k s = [s] := by
  cases k with
  | zero => rfl
  | succ k => simp [Lib.splitK, h]
theorem splitK_hit (c : UInt8) (k : Nat) (p r : List UInt8) (h : Lib.index (p ++ c :: r) [c] = (p.length : Int)) : Lib.splitK [c] 0 (k + 1) (p ++ c :: r) = p :: Lib.splitK [c] 0 k r := by
  have hn : ((p.length : Int) == -1) = false := by simp
  rw [Lib.splitK, h, hn]
  simp
theorem splitK_parts (c : UInt8) : ∀ (k : Nat) (s : List UInt8), ((partsF c s).length ≤ k + 1 → Lib.splitK [c] 0 k s = partsF c s) ∧ (k + 1 < (partsF c s).length → ∃ p ∈ Lib.splitK [c] 0 k s, c ∈ p)
  | 0, s => by
    rcases index_split c s with ⟨h1, h2⟩ | ⟨p, r, rfl, h1, h2⟩
    · rw [partsF_miss c s h1]
      exact ⟨fun _ => rfl, fun h => by simp at h⟩
    · rw [partsF_hit c p r h1]
      refine ⟨fun h => ?_, fun _ => ⟨_, by rw [splitK_zero]; exact List.mem_singleton.2 rfl, by simp⟩⟩
      have : (partsF c r).length ≠ 0 := fun h0 => partsF_ne c r (List.eq_nil_of_length_eq_zero h0)
      have h' : (partsF c r).length + 1 ≤ 0 + 1 := by simpa only [List.length_cons] using h
      omega
  | k + 1, s => by
    rcases index_split c s with ⟨h1, h2⟩ | ⟨p, r, rfl, h1, h2⟩
    · rw [partsF_miss c s h1, splitK_miss c _ s h2]
      exact ⟨fun _ => rfl, fun h => by simp at h⟩
    · rw [partsF_hit c p r h1, splitK_hit c k p r h2]
      obtain ⟨ih1, ih2⟩ := splitK_parts c k r
      refine ⟨fun h => by rw [ih1 (by simpa using h)], fun h => ?_⟩
      obtain ⟨q, hq, hc⟩ := ih2 (by simpa using h)
      exact ⟨q, List.mem_cons_of_mem _ hq, hc⟩
theorem splitK_part (c : UInt8) : ∀ (k : Nat) (s p : List UInt8), p ∈ Lib.splitK [c] 0 k s → p.length ≤ s.length
  | 0, s, p, h => by
    rw [splitK_zero] at h
    rw [List.mem_singleton.1 h]
    exact Nat.le_refl _
  | k + 1, s, p, h => by
    rcases index_split c s with ⟨h1, h2⟩ | ⟨q, r, rfl, h1, h2⟩
    · rw [splitK_miss c _ s h2] at h
      rw [List.mem_singleton.1 h]
      exact Nat.le_refl _
    · rw [splitK_hit c k q r h2] at h
      rcases List.mem_cons.1 h with rfl | h
      · simp
      · have := splitK_part c k r p h
        simp
        omega
theorem itoa_bytes (v : Int) : ∀ b ∈ Lib.itoa v, b ≠ 32 := by
  have hd : ∀ n, ∀ b ∈ Lib.decDigits n, b ≠ 32 := fun n b hb e => by
    obtain ⟨k, hk⟩ := List.getElem?_of_mem hb
    obtain ⟨d, hd⟩ := Lib.digit_of_decFrom _ 0 n (decFrom_digits n) k b hk
    rw [e] at hd
    cases hd
  unfold Lib.itoa
  split
  · intro b hb
    rcases List.mem_cons.1 hb with rfl | hb
    · decide
    · exact hd _ b hb
  · exact hd _
theorem parts_len (c : UInt8) : ∀ (s : List UInt8), s.length + 1 = ((partsF c s).map fun p => p.length + 1).sum
  | [] => by simp [partsF]
  | b :: r => by
    have ih := parts_len c r
    unfold partsF
    split
    · simp
      omega
    · split
      · rename_i p ps h
        rw [h] at ih
        simp at ih ⊢
        omega
      · rename_i h
        exact absurd h (partsF_ne c r)
theorem mapM_mem {α β : Type} {f : α → Option β} : ∀ {l : List α} {r : List β}, l.mapM f = some r → ∀ a ∈ l, ∃ b ∈ r, f a = some b
  | [], _, _, a, ha => by simp at ha
  | x :: l, r, h, a, ha => by
    rw [List.mapM_cons] at h
    cases hx : f x with
    | none => rw [hx] at h; cases h
    | some y =>
      rw [hx] at h
      cases hl : l.mapM f with
      | none => rw [hl] at h; cases h
      | some ys =>
        rw [hl] at h
        injection h with h
        subst h
        rcases List.mem_cons.1 ha with rfl | ha
        · exact ⟨y, by simp, hx⟩
        · obtain ⟨b, hb, hf⟩ := mapM_mem hl a ha
          exact ⟨b, by simp [hb], hf⟩
theorem mapM_len {α β : Type} {f : α → Option β} : ∀ {l : List α} {r : List β}, l.mapM f = some r → r.length = l.length
  | [], r, h => by
    injection h with h
    subst h
    rfl
  | x :: l, r, h => by
    rw [List.mapM_cons] at h
    cases hx : f x with
    | none => rw [hx] at h; cases h
    | some y =>
      rw [hx] at h
      cases hl : l.mapM f with
      | none => rw [hl] at h; cases h
      | some ys =>
        rw [hl] at h
        injection h with h
        subst h
        simp [mapM_len hl]
theorem mapM_congr {α β : Type} {f g : α → Option β} : ∀ {l : List α}, (∀ a ∈ l, f a = g a) → l.mapM f = l.mapM g
  | [], _ => rfl
  | x :: l, h => by rw [List.mapM_cons, List.mapM_cons, h x (by simp), mapM_congr (fun a ha => h a (by simp [ha]))]
/-- the program's reading of the parts, and the model's -/
def listQ (ws : List (List UInt8)) : Option (List Int) := ws.mapM parseF
theorem memF_some {o : Option (List Int)} {xs : List Int} : memF o = some xs ↔ o = some xs ∧ memOk xs = true := by
  cases o with
  | none => simp [memF]
  | some ys =>
    simp only [memF, Option.bind_some]
    split
    · rename_i h
      constructor
      · intro e
        injection e with e
        subst e
        exact ⟨rfl, h⟩
      · rintro ⟨e, _⟩
        exact e
    · rename_i h
      constructor
      · intro e
        cases e
      · rintro ⟨e, h1⟩
        injection e with e
        subst e
        exact absurd h1 h
theorem readF_parse {p : List UInt8} {v : Int} (h : readF p = some v) : parseF p = some v := by
  obtain ⟨rfl, hv⟩ := readF_some h
  unfold parseF
  rw [atoi_itoa v hv]
  simp
theorem opt_ext {α : Type} {a b : Option α} (h : ∀ x, a = some x ↔ b = some x) : a = b := by
  cases a with
  | none => cases b with
    | none => rfl
    | some y => exact absurd ((h y).2 rfl) (by simp)
  | some x => exact ((h x).1 rfl).symm
theorem list_same (ws : List (List UInt8)) : memF (listQ ws) = memF (listF ws) := by
  refine opt_ext fun xs => ?_
  rw [memF_some, memF_some]
  constructor
  · rintro ⟨h, hm⟩
    refine ⟨?_, hm⟩
    rw [← h]
    refine mapM_congr fun p hp => ?_
    obtain ⟨v, hv, hpv⟩ := mapM_mem h p hp
    have hb := (memOk_parts hm).2.2 v hv
    rw [hpv]
    have := readF_itoa (v := v) (by omega)
    rwa [parseF_some hpv] at this
  · rintro ⟨h, hm⟩
    refine ⟨?_, hm⟩
    rw [← h]
    refine mapM_congr fun p hp => ?_
    obtain ⟨v, hv, hpv⟩ := mapM_mem h p hp
    rw [hpv, readF_parse hpv]
theorem itoa_len {v : Int} (h : -1000000 ≤ v ∧ v ≤ 1000000) : (Lib.itoa v).length ≤ 8 := by
  have := digits_len7 (v := v) (by omega)
  unfold Lib.itoa
  split
  · simp
    omega
  · rw [show v.toNat = v.natAbs by omega]
    omega
theorem sum_le : ∀ (l : List (List UInt8)), (∀ p ∈ l, p.length ≤ 8) → (l.map fun p => p.length + 1).sum ≤ 9 * l.length
  | [], _ => by simp
  | p :: l, h => by
    have := sum_le l (fun q hq => h q (by simp [hq]))
    have := h p (by simp)
    simp
    omega
theorem listF_long (s : List UInt8) (h : 144 < s.length ∨ 16 < (partsF 32 s).length) : memF (listF (partsF 32 s)) = none := by
  cases hm : memF (listF (partsF 32 s)) with
  | none => rfl
  | some xs =>
    obtain ⟨hl, ho⟩ := memF_some.1 hm
    have hp := memOk_parts ho
    have hn := mapM_len hl
    have h1 := parts_len 32 s
    have h2 := sum_le (partsF 32 s) (fun p hq => by
      obtain ⟨v, hv, hr⟩ := mapM_mem hl p hq
      rw [← (readF_some hr).1]
      exact itoa_len (hp.2.2 v hv))
    omega
theorem parse_same (s : List UInt8) (k : Nat) (hk : k = min 17 (s.length + 1) - 1) : memF (listQ (Lib.splitK [32] 0 k s)) = specParseF s := by
  have hpl := partsF_len 32 s
  obtain ⟨h1, h2⟩ := splitK_parts 32 k s
  by_cases h : (partsF 32 s).length ≤ k + 1
  · rw [h1 h, list_same]
    unfold specParseF
    split
    · exact listF_long s (.inl (by assumption))
    · rfl
  · obtain ⟨p, hp, hc⟩ := h2 (by omega)
    have hl : specParseF s = none := by
      unfold specParseF
      split
      · rfl
      · exact listF_long s (.inr (by omega))
    rw [hl]
    cases hm : memF (listQ (Lib.splitK [32] 0 k s)) with
    | none => rfl
    | some xs =>
      obtain ⟨hq, _⟩ := memF_some.1 hm
      obtain ⟨v, _, hv⟩ := mapM_mem hq p hp
      rw [← parseF_some hv] at hc
      exact absurd rfl (itoa_bytes v 32 hc)
end Go.Proofs.YtgbgjlmkmlhefaaGreatDoor
