/- A text parted at each byte of one kind, the model's way (l01Parts). -/
import Derived.Test.YtmagjjdinfkhkaaDoorR1
namespace Go.Proofs.YtmagjjdinfkhkaaDoor
set_option maxRecDepth 20000
set_option linter.unusedSimpArgs false
set_option linter.unusedVariables false
open Go.ChangeShapes Go.WideShapes Go.ChangeAt Go.RowKit
set_option linter.unusedVariables false
def partsF (c : UInt8) : List UInt8 → List (List UInt8)
  | [] => [[]]
  | b :: r => if b = c then [] :: partsF c r else match partsF c r with
    | p :: ps => (b :: p) :: ps
    | [] => [[b]]
theorem partsF_ne (c : UInt8) (s : List UInt8) : partsF c s ≠ [] := by
  cases s with
  | nil => simp [partsF]
  | cons b r =>
    unfold partsF
    split
    · simp
    · split <;> simp
theorem partsF_hit (c : UInt8) : ∀ (p r : List UInt8), (∀ b ∈ p, b ≠ c) → partsF c (p ++ c :: r) = p :: partsF c r
  | [], r, _ => by simp [partsF]
  | b :: p, r, h => by
    have hb : b ≠ c := h b (by simp)
    rw [List.cons_append, partsF, if_neg hb, partsF_hit c p r (fun x hx => h x (by simp [hx]))]
theorem partsF_miss (c : UInt8) : ∀ (p : List UInt8), (∀ b ∈ p, b ≠ c) → partsF c p = [p]
  | [], _ => by simp [partsF]
  | b :: p, h => by
    have hb : b ≠ c := h b (by simp)
    rw [partsF, if_neg hb, partsF_miss c p (fun x hx => h x (by simp [hx]))]
theorem partsF_len (c : UInt8) : ∀ (s : List UInt8), (partsF c s).length ≤ s.length + 1
  | [] => by simp [partsF]
  | b :: r => by
    have ih := partsF_len c r
    unfold partsF
    split
    · simpa using ih
    · split
      · rename_i h
        rw [h] at ih
        simp at ih ⊢
        omega
      · simp
def strs (L : List (List UInt8)) : List Value := L.map str
theorem strs_snoc (L : List (List UInt8)) (p : List UInt8) : strs L ++ [str p] = strs (L ++ [p]) := by simp [strs]
theorem ext_piece (s : List UInt8) (a k : Nat) : (⟨s.toArray⟩ : ByteArray).extract a k = ⟨((s.take k).drop a).toArray⟩ := by
  apply ByteArray.ext
  rw [ByteArray.data_extract]
  apply Array.ext'
  simp [List.drop_take]
/-- the loop's state: 'a' is where the part begins, no byte of it so far parts -/
def PState (c : UInt8) (s : List UInt8) (k a : Nat) (L : List (List UInt8)) : Prop :=
  (k ≤ s.length ∧ a ≤ k ∧ L.length ≤ k ∧ (∀ b ∈ (s.take k).drop a, b ≠ c) ∧ L ++ partsF c (s.drop a) = partsF c s) ∨ (k = s.length + 1 ∧ L = partsF c s)
theorem split_at {s : List UInt8} {a k : Nat} (h : a ≤ k) : s.drop a = (s.take k).drop a ++ s.drop k := by
  have e : s.drop a = (s.take k ++ s.drop k).drop a := by rw [List.take_append_drop]
  rw [e]
  by_cases hk : k ≤ s.length
  · rw [List.drop_append_of_le_length (by rw [List.length_take]; omega)]
  · rw [List.take_of_length_le (by omega), List.drop_eq_nil_of_le (by omega : s.length ≤ k)]
    simp
theorem PState.hit {c : UInt8} {s : List UInt8} {k a : Nat} {L : List (List UInt8)} (hk : k < s.length) (ha : a ≤ k) (hn : ∀ b ∈ (s.take k).drop a, b ≠ c) (hp : L ++ partsF c (s.drop a) = partsF c s) (hL : L.length ≤ k) (hc : s[k]? = some c) :
    PState c s (k + 1) (k + 1) (L ++ [(s.take k).drop a]) := by
  refine .inl ⟨by omega, Nat.le_refl _, by simp; omega, by simp, ?_⟩
  obtain ⟨hk', he⟩ := List.getElem?_eq_some_iff.1 hc
  rw [split_at ha, List.drop_eq_getElem_cons hk', he, partsF_hit c _ _ hn] at hp
  rw [List.append_assoc]
  exact hp
theorem PState.miss {c b : UInt8} {s : List UInt8} {k a : Nat} {L : List (List UInt8)} (hk : k < s.length) (ha : a ≤ k) (hn : ∀ b ∈ (s.take k).drop a, b ≠ c) (hp : L ++ partsF c (s.drop a) = partsF c s) (hL : L.length ≤ k) (hc : s[k]? = some b) (hb : b ≠ c) :
    PState c s (k + 1) a L := by
  refine .inl ⟨by omega, by omega, by omega, ?_, hp⟩
  rw [List.take_add_one, hc, List.drop_append_of_le_length (by rw [List.length_take]; omega)]
  intro x hx
  rcases List.mem_append.1 hx with h | h
  · exact hn x h
  · simp at h
    rw [h]
    exact hb
theorem PState.last {c : UInt8} {s : List UInt8} {a : Nat} {L : List (List UInt8)} (ha : a ≤ s.length) (hn : ∀ b ∈ (s.take s.length).drop a, b ≠ c) (hp : L ++ partsF c (s.drop a) = partsF c s) (x : Nat) :
    PState c s (s.length + 1) x (L ++ [(s.take s.length).drop a]) := by
  refine .inr ⟨rfl, ?_⟩
  rw [split_at ha, List.drop_length, List.append_nil, partsF_miss c _ hn] at hp
  exact hp
end Go.Proofs.YtmagjjdinfkhkaaDoor
