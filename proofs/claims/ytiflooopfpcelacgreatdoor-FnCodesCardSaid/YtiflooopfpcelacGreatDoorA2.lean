/- Plain lemmas on lists of integers: the distinct members of a sorted list are the list that insertion builds. -/
import Derived.Test.YtiflooopfpcelacGreatDoorS2c
import Derived.Lib.SlicesCompact
namespace Go.Proofs.YtiflooopfpcelacGreatDoor
set_option maxRecDepth 20000
set_option linter.unusedSimpArgs false
set_option linter.unusedVariables false
theorem strict_ext : ∀ {l m : List Int}, l.Pairwise (· < ·) → m.Pairwise (· < ·) → (∀ x, x ∈ l ↔ x ∈ m) → l = m
  | [], [], _, _, _ => rfl
  | [], b :: m, _, _, h => by have := (h b).2 (by simp); simp at this
  | a :: l, [], _, _, h => by have := (h a).1 (by simp); simp at this
  | a :: l, b :: m, h1, h2, h => by
    rw [List.pairwise_cons] at h1 h2
    have ha : a ∈ b :: m := (h a).1 (by simp)
    have hb : b ∈ a :: l := (h b).2 (by simp)
    have e : a = b := by
      rcases List.mem_cons.1 ha with rfl | ha
      · rfl
      · rcases List.mem_cons.1 hb with rfl | hb
        · rfl
        · have := h1.1 _ hb
          have := h2.1 _ ha
          omega
    subst e
    congr 1
    refine strict_ext h1.2 h2.2 fun x => ⟨fun hx => ?_, fun hx => ?_⟩
    · rcases List.mem_cons.1 ((h x).1 (List.mem_cons_of_mem _ hx)) with rfl | h'
      · exact absurd (h1.1 _ hx) (by omega)
      · exact h'
    · rcases List.mem_cons.1 ((h x).2 (List.mem_cons_of_mem _ hx)) with rfl | h'
      · exact absurd (h2.1 _ hx) (by omega)
      · exact h'
theorem mem_putA {x y : Int} : ∀ {l : List Int}, y ∈ putA x l ↔ y = x ∨ y ∈ l
  | [] => by simp [putA]
  | a :: l => by
    unfold putA
    have := mem_putA (x := x) (y := y) (l := l)
    split
    · simp
    · split
      · rename_i h
        subst h
        simp
      · simp only [List.mem_cons, this]
        exact ⟨fun h => by rcases h with h | h | h <;> simp [h], fun h => by rcases h with h | h | h <;> simp [h]⟩
theorem putA_strict {x : Int} : ∀ {l : List Int}, l.Pairwise (· < ·) → (putA x l).Pairwise (· < ·)
  | [], _ => by simp [putA]
  | a :: l, h => by
    have h' := h
    rw [List.pairwise_cons] at h
    unfold putA
    split
    · rename_i hx
      rw [List.pairwise_cons]
      refine ⟨fun y hy => ?_, h'⟩
      rcases List.mem_cons.1 hy with rfl | hy
      · exact hx
      · have := h.1 _ hy
        omega
    · split
      · exact h'
      · rw [List.pairwise_cons]
        refine ⟨fun y hy => ?_, putA_strict h.2⟩
        rcases mem_putA.1 hy with rfl | hy
        · omega
        · exact h.1 _ hy
/-- the addresses in the code's order -/
def addrRaw (xs : List Ins) : List Int := (xs.filter fun i => inA i.o).map (·.n)
theorem addrAt_gen : ∀ (xs : List Ins) (l : List Int), l.Pairwise (· < ·) → (xs.foldl (fun a i => if inA i.o then putA i.n a else a) l).Pairwise (· < ·) ∧ ∀ y, y ∈ xs.foldl (fun a i => if inA i.o then putA i.n a else a) l ↔ y ∈ l ∨ y ∈ addrRaw xs
  | [], l, h => ⟨h, by simp [addrRaw]⟩
  | i :: xs, l, h => by
    rw [List.foldl_cons]
    cases hi : inA i.o
    · obtain ⟨h1, h2⟩ := addrAt_gen xs l h
      simp only [Bool.false_eq_true, if_false]
      exact ⟨h1, fun y => by rw [h2]; simp [addrRaw, hi]⟩
    · obtain ⟨h1, h2⟩ := addrAt_gen xs (putA i.n l) (putA_strict h)
      simp only [if_true]
      refine ⟨h1, fun y => ?_⟩
      rw [h2, mem_putA]
      simp only [addrRaw, List.filter_cons, hi, if_true, List.map_cons, List.mem_cons]
      constructor
      · rintro ((h | h) | h)
        · exact .inr (.inl h)
        · exact .inl h
        · exact .inr (.inr h)
      · rintro (h | h | h)
        · exact .inl (.inr h)
        · exact .inl (.inl h)
        · exact .inr h
theorem compactUpTo_sorted {zs : List Int} (hs : zs.Pairwise (· ≤ ·)) : ∀ m, m ≤ zs.length → (Lib.compactUpTo zs.toArray m).Pairwise (· < ·) ∧ ∀ y, y ∈ Lib.compactUpTo zs.toArray m ↔ y ∈ zs.take m
  | 0, _ => by simp [Lib.compactUpTo]
  | m + 1, hm => by
    obtain ⟨h1, h2⟩ := compactUpTo_sorted hs m (by omega)
    have hget : zs.toArray[m]! = zs[m] := by simp [show m < zs.length by omega]
    have htk : zs.take (m + 1) = zs.take m ++ [zs[m]] := by rw [List.take_succ_eq_append_getElem (by omega)]
    rw [Lib.compactUpTo_succ, hget, htk]
    cases hk : Lib.keeps zs.toArray m
    · have hk' : ¬ (m = 0 ∨ zs.toArray[m]! ≠ zs.toArray[m - 1]!) := by simpa [Lib.keeps] using hk
      have hm0 : 0 < m := by omega
      have he : zs[m] = zs[m - 1] := by
        have : zs.toArray[m]! = zs.toArray[m - 1]! := by
          by_cases h : zs.toArray[m]! = zs.toArray[m - 1]!
          · exact h
          · exact absurd (.inr h) hk'
        simpa [show m < zs.length by omega, show m - 1 < zs.length by omega] using this
      simp only [Bool.false_eq_true, if_false, List.append_nil]
      refine ⟨h1, fun y => ?_⟩
      rw [h2, List.mem_append, List.mem_singleton]
      constructor
      · exact .inl
      · rintro (h | rfl)
        · exact h
        · rw [he, List.mem_take_iff_getElem]
          exact ⟨m - 1, by omega, rfl⟩
    · have hk' : m = 0 ∨ zs.toArray[m]! ≠ zs.toArray[m - 1]! := by simpa [Lib.keeps] using hk
      simp only [if_true]
      refine ⟨?_, fun y => by rw [List.mem_append, List.mem_append, h2]⟩
      rw [List.pairwise_append]
      refine ⟨h1, by simp, fun x hx y hy => ?_⟩
      obtain rfl := List.mem_singleton.1 hy
      have hx' := (h2 x).1 hx
      obtain ⟨j, hj, rfl⟩ := List.mem_take_iff_getElem.1 hx'
      have hjm : j < m := by omega
      have hne : zs[m] ≠ zs[m - 1] := by
        rcases hk' with h | h
        · omega
        · simpa [show m < zs.length by omega, show m - 1 < zs.length by omega] using h
      have hp := List.pairwise_iff_getElem.1 hs
      have ha : zs[m - 1] ≤ zs[m] := hp (m - 1) m (by omega) (by omega) (by omega)
      have hb : zs[j] ≤ zs[m - 1] := by
        by_cases e : j = m - 1
        · subst e
          exact Int.le_refl _
        · exact hp j (m - 1) (by omega) (by omega) (by omega)
      omega
def sortI (l : List Int) : List Int := l.mergeSort fun x y => decide (x ≤ y)
theorem sortI_len (l : List Int) : (sortI l).length = l.length := List.length_mergeSort _
theorem compact_sort (xs : List Ins) : Lib.compact (sortI (addrRaw xs)) = addrAt xs := by
  have hs : (sortI (addrRaw xs)).Pairwise (· ≤ ·) := by
    have := List.pairwise_mergeSort (le := fun x y : Int => decide (x ≤ y)) (fun a b c h1 h2 => by simp at *; omega) (fun a b => by simp; omega) (addrRaw xs)
    exact this.imp fun h => by simpa using h
  obtain ⟨h1, h2⟩ := compactUpTo_sorted hs _ (Nat.le_refl _)
  obtain ⟨h3, h4⟩ := addrAt_gen xs [] (by simp)
  refine strict_ext h1 h3 fun x => ?_
  unfold Lib.compact addrAt
  rw [h2, List.take_length]
  rw [h4]
  simp [sortI]
theorem compact_len (zs : List Int) : (Lib.compact zs).length ≤ zs.length := by
  unfold Lib.compact Lib.compactUpTo
  rw [List.length_map]
  exact Nat.le_trans (List.length_filter_le _ _) (by simp)
theorem addrRaw_snoc {xs : List Ins} {k : Nat} {x : Ins} (h : xs[k]? = some x) : addrRaw (xs.take (k + 1)) = addrRaw (xs.take k) ++ (if inA x.o then [x.n] else []) := by
  unfold addrRaw
  rw [List.take_add_one, h]
  cases hx : inA x.o <;> simp [List.filter_append, hx]
theorem addrF_len (xs : List Ins) : (addrF xs).length ≤ 16 := by
  unfold addrF
  split
  · rename_i h
    rw [← compact_sort]
    have h1 := compact_len (sortI (addrRaw xs))
    rw [sortI_len] at h1
    have h2 : (addrRaw xs).length ≤ xs.length := by unfold addrRaw; rw [List.length_map]; exact List.length_filter_le _ _
    omega
  · simp
end Go.Proofs.YtiflooopfpcelacGreatDoor
