/- Plain lemmas on codes: fences put behind stores, targets moved. -/
import Derived.Test.YtgbgjlmkmlhefaaGreatDoorS2p
namespace Go.Proofs.YtgbgjlmkmlhefaaGreatDoor
set_option maxRecDepth 20000
set_option linter.unusedSimpArgs false
set_option linter.unusedVariables false
open Go.ChangeShapes Go.WideShapes Go.ChangeAt Go.RowKit
def fenceI : Ins := ⟨4, 0, 0, 0⟩
def lacksB (xs : List Ins) (k : Nat) : Bool :=
  match xs[k]? with
  | some x => x.o == 3 && (match xs[k + 1]? with
    | some y => y.o != 4
    | none => true)
  | none => false
def fenAt (xs : List Ins) : Nat → List Ins
  | 0 => []
  | k + 1 => fenAt xs k ++ (match xs[k]? with
    | some x => [x] ++ (if lacksB xs k then [fenceI] else [])
    | none => [])
def movAt (xs : List Ins) (k : Nat) : List Int := (List.range k).map fun j => ((fenAt xs j).length : Int)
def retI (M : List Int) (i : Ins) : Ins := if i.o = 6 then ⟨i.o, i.r, i.s, M.getD i.n.toNat 0⟩ else i
def tgtB (n : Int) (i : Ins) : Bool := !(i.o == 6) || inB i.n 0 n
def tgtOk (xs : List Ins) : Bool := xs.all (tgtB xs.length)
def wfF (xs : List Ins) : Option (List Ins) :=
  if xs.length ≤ 16 ∧ tgtOk xs = true ∧ (fenAt xs xs.length).length ≤ 16 then some ((fenAt xs xs.length).map (retI (movAt xs (xs.length + 1)))) else none
theorem fenAt_snoc {xs : List Ins} {k : Nat} {x : Ins} (h : xs[k]? = some x) : fenAt xs (k + 1) = fenAt xs k ++ [x] ++ (if lacksB xs k then [fenceI] else []) := by
  rw [fenAt, h]
  simp
theorem fenAt_len (xs : List Ins) : ∀ k, (fenAt xs k).length ≤ 2 * k
  | 0 => by simp [fenAt]
  | k + 1 => by
    have := fenAt_len xs k
    rw [fenAt, List.length_append]
    split
    · split <;> simp <;> omega
    · simp
      omega
theorem movAt_snoc (xs : List Ins) (k : Nat) : movAt xs (k + 1) = movAt xs k ++ [((fenAt xs k).length : Int)] := by
  unfold movAt
  rw [List.range_succ, List.map_append]
  rfl
theorem movAt_len (xs : List Ins) (k : Nat) : (movAt xs k).length = k := by simp [movAt]
theorem fenAt_mem (xs : List Ins) : ∀ k i, i ∈ fenAt xs k → i ∈ xs ∨ i = fenceI
  | 0, i, h => by simp [fenAt] at h
  | k + 1, i, h => by
    rw [fenAt, List.mem_append] at h
    rcases h with h | h
    · exact fenAt_mem xs k i h
    · split at h
      · rename_i x hx
        rw [List.mem_append] at h
        rcases h with h | h
        · rw [List.mem_singleton] at h
          subst h
          exact .inl (List.mem_of_getElem? hx)
        · split at h
          · rw [List.mem_singleton] at h
            exact .inr h
          · simp at h
      · simp at h
/-- a jump among the fenced instructions leads to a place of the code -/
theorem fenAt_tgt {xs : List Ins} (h : tgtOk xs = true) {k : Nat} {i : Ins} (hi : i ∈ fenAt xs k) (h6 : i.o = 6) : 0 ≤ i.n ∧ i.n ≤ xs.length := by
  rcases fenAt_mem xs k i hi with h1 | rfl
  · have := List.all_eq_true.1 h i h1
    simp only [tgtB, h6] at this
    exact inB_true (by simpa using this)
  · simp [fenceI] at h6
theorem flc_set {xs : List Ins} {k : Nat} {x : Ins} (h : xs[k]? = some x) (y : Int) : (flc xs).set (k * 4 + 3) (.int .i64 y) = flc (xs.set k ⟨x.o, x.r, x.s, y⟩) := by
  obtain ⟨hk, rfl⟩ := List.getElem?_eq_some_iff.1 h
  have e : xs = xs.take k ++ [xs[k]] ++ xs.drop (k + 1) := by simp
  have hl : (flc (xs.take k)).length = k * 4 := by rw [flc_len, List.length_take]; congr 1; omega
  have e2 : xs.set k ⟨xs[k].o, xs[k].r, xs[k].s, y⟩ = xs.take k ++ [⟨xs[k].o, xs[k].r, xs[k].s, y⟩] ++ xs.drop (k + 1) := by
    rw [List.set_eq_take_append_cons_drop]
    simp [hk]
  rw [e2]
  conv => lhs; rw [e]
  rw [flc_append, flc_append, flc_append, flc_append, flc_one, flc_one, List.append_assoc, List.append_assoc, List.set_append_right _ _ (by omega), hl]
  congr 1
  rw [show k * 4 + 3 - k * 4 = 3 by omega]
  rfl
/-- the first k instructions with their targets moved -/
def retAt (M : List Int) (L : List Ins) (k : Nat) : List Ins := (L.take k).map (retI M) ++ L.drop k
theorem retAt_zero (M : List Int) (L : List Ins) : retAt M L 0 = L := by simp [retAt]
theorem retAt_all (M : List Int) (L : List Ins) : retAt M L L.length = L.map (retI M) := by simp [retAt]
theorem retAt_len (M : List Int) (L : List Ins) (k : Nat) : (retAt M L k).length = L.length := by simp [retAt]; omega
theorem retAt_at {M : List Int} {L : List Ins} {k : Nat} {x : Ins} (h : L[k]? = some x) : (retAt M L k)[k]? = some x := by
  have hk := (List.getElem?_eq_some_iff.1 h).1
  unfold retAt
  rw [List.getElem?_append_right (by simp; omega)]
  simp [List.length_take, Nat.min_eq_left (Nat.le_of_lt hk), h]
theorem retAt_snoc {M : List Int} {L : List Ins} {k : Nat} {x : Ins} (h : L[k]? = some x) : retAt M L (k + 1) = (retAt M L k).set k (retI M x) := by
  obtain ⟨hk, rfl⟩ := List.getElem?_eq_some_iff.1 h
  unfold retAt
  have hl : ((L.take k).map (retI M)).length = k := by simp; omega
  rw [List.set_append_right _ _ (by omega), hl, Nat.sub_self, List.drop_eq_getElem_cons hk, List.set_cons_zero, List.take_succ_eq_append_getElem hk, List.map_append, List.append_assoc]
  rfl
theorem retAt_keep {M : List Int} {L : List Ins} {k : Nat} {x : Ins} (h : L[k]? = some x) (h6 : x.o ≠ 6) : retAt M L (k + 1) = retAt M L k := by
  rw [retAt_snoc h, show retI M x = x by simp [retI, h6]]
  have h2 := retAt_at (M := M) h
  obtain ⟨hk, h3⟩ := List.getElem?_eq_some_iff.1 h2
  rw [← h3]
  simp
/-- of two owned rows of other elements' types the blocks differ -/
theorem own_ne {w : World} {b1 b2 : Nat} {e1 e2 : TypeId} {s1 s2 : Nat} {v1 v2 : Value} {n1 n2 : Nat} {xs1 xs2 : List Value} (h1 : w.ownsRow b1 e1 s1 v1 n1 xs1) (h2 : w.ownsRow b2 e2 s2 v2 n2 xs2) (he : e1 ≠ e2) : v1.ownBlock = none ∨ v1.ownBlock ≠ v2.ownBlock := by
  obtain ⟨_, ⟨rfl, _⟩ | ⟨g1, c1, r1, rfl, _, hg1, _⟩⟩ := h1
  · exact .inl rfl
  · obtain ⟨_, ⟨rfl, _⟩ | ⟨g2, c2, r2, rfl, _, hg2, _⟩⟩ := h2
    · exact .inr (by simp [Value.ownBlock])
    · refine .inr fun e => ?_
      simp only [Value.ownBlock, Option.some.injEq] at e
      subst e
      rw [hg1] at hg2
      injection hg2 with hg2
      injection hg2 with _ hg2 _
      exact he hg2
end Go.Proofs.YtgbgjlmkmlhefaaGreatDoor
