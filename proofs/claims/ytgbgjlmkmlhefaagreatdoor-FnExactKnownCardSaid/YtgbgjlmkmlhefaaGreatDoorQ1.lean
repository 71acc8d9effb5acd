/- Plain: what text is an instruction's; strings.Split at one byte is the model's parts. -/
import Derived.Test.YtgbgjlmkmlhefaaGreatDoorP4
import Derived.Test.YtgbgjlmkmlhefaaGreatDoorT3
import Derived.Lib.CountLaws
namespace Go.Proofs.YtgbgjlmkmlhefaaGreatDoor
set_option maxRecDepth 20000
set_option linter.unusedSimpArgs false
set_option linter.unusedVariables false
open Go.ChangeShapes Go.WideShapes Go.ChangeAt Go.RowKit
def valF (p : List UInt8) : Option Int := (readF p).bind fun v => if valB v then some v else none
def setF (i : Ins) (c : UInt8) (v : Int) : Ins := if c = 114 then ⟨i.o, v, i.s, i.n⟩ else if c = 115 then ⟨i.o, i.r, v, i.n⟩ else ⟨i.o, i.r, i.s, v⟩
def buildI (o : Int) (f : List UInt8) (vs : List Int) : Ins := (f.zip vs).foldl (fun i cv => setF i cv.1 cv.2) ⟨o, 0, 0, 0⟩
def matchB (ws : List (List UInt8)) (k : Nat) : Bool := ws.head? == some (wordF k) && ws.length == 1 + (formF k).length
def parseW (ws : List (List UInt8)) : Option Ins :=
  match (List.range 9).find? (matchB ws) with
  | none => none
  | some k => (ws.tail.mapM valF).map (buildI k (formF k))
def parseIF (s : List UInt8) : Option Ins := if 60 < s.length then none else parseW (partsF 32 s)
theorem valF_some {p : List UInt8} {v : Int} : valF p = some v ↔ readF p = some v ∧ valB v = true := by
  unfold valF
  cases readF p with
  | none => simp
  | some x =>
    simp only [Option.bind_some, Option.some.injEq]
    split
    · rename_i h
      constructor
      · intro e
        injection e with e
        subst e
        exact ⟨rfl, h⟩
      · rintro ⟨rfl, -⟩
        rfl
    · rename_i h
      constructor
      · intro e
        cases e
      · rintro ⟨rfl, h2⟩
        exact absurd h2 h
/-- the program reads a word by parseF: with the value's limits it is the same -/
theorem valF_parse {p : List UInt8} {v : Int} : valF p = some v ↔ parseF p = some v ∧ valB v = true := by
  rw [valF_some]
  constructor
  · rintro ⟨h1, h2⟩
    exact ⟨readF_parse h1, h2⟩
  · rintro ⟨h1, h2⟩
    have h3 := inB_true (show inB v (-1000000) 1000000 = true from h2)
    have h4 := parseF_some h1
    subst h4
    exact ⟨readF_itoa (by omega), h2⟩
theorem buildI_snoc {o : Int} {f : List UInt8} {m : Nat} {vs : List Int} {c : UInt8} {v : Int} (hc : f[m]? = some c) (hl : vs.length = m) : buildI o (f.take (m + 1)) (vs ++ [v]) = setF (buildI o (f.take m) vs) c v := by
  unfold buildI
  have hm := (List.getElem?_eq_some_iff.1 hc).1
  rw [List.take_add_one, hc, Option.toList_some, List.zip_append (by simp; omega), List.foldl_append]
  rfl
theorem mapM_snoc {α β : Type} {f : α → Option β} {l : List α} {k : Nat} {r : List β} {a : α} {b : β} (h : (l.take k).mapM f = some r) (ha : l[k]? = some a) (hb : f a = some b) : (l.take (k + 1)).mapM f = some (r ++ [b]) := by
  rw [List.take_add_one, ha, List.mapM_append, h]
  simp [hb]
theorem mapM_none {α β : Type} {f : α → Option β} {l : List α} {k : Nat} {a : α} (ha : l[k]? = some a) (hb : f a = none) : l.mapM f = none := by
  cases h : l.mapM f with
  | none => rfl
  | some r =>
    obtain ⟨b, -, h2⟩ := mapM_mem h a (List.mem_of_getElem? ha)
    rw [hb] at h2
    cases h2
theorem find_at {p : Nat → Bool} {k n : Nat} (hk : k < n) (h : p k = true) (hb : ∀ j, j < k → p j = false) : (List.range n).find? p = some k := by
  rw [List.find?_range_eq_some]
  exact ⟨h, by simpa using hk, fun j hj => by simp [hb j hj]⟩
theorem find_no {p : Nat → Bool} {n : Nat} (hb : ∀ j, j < n → p j = false) : (List.range n).find? p = none := by
  rw [List.find?_eq_none]
  intro x hx
  simp [hb x (List.mem_range.1 hx)]
theorem wordF_at {k : Nat} (h : k < 9) : wordTab[k]? = some (wordF k) := by
  have : k = 0 ∨ k = 1 ∨ k = 2 ∨ k = 3 ∨ k = 4 ∨ k = 5 ∨ k = 6 ∨ k = 7 ∨ k = 8 := by omega
  rcases this with rfl | rfl | rfl | rfl | rfl | rfl | rfl | rfl | rfl <;> rfl
theorem wordF_inj {j k : Nat} (hj : j < 9) (hk : k < 9) (h : wordF j = wordF k) : j = k := by
  have h1 : j = 0 ∨ j = 1 ∨ j = 2 ∨ j = 3 ∨ j = 4 ∨ j = 5 ∨ j = 6 ∨ j = 7 ∨ j = 8 := by omega
  have h2 : k = 0 ∨ k = 1 ∨ k = 2 ∨ k = 3 ∨ k = 4 ∨ k = 5 ∨ k = 6 ∨ k = 7 ∨ k = 8 := by omega
  revert h
  rcases h1 with rfl | rfl | rfl | rfl | rfl | rfl | rfl | rfl | rfl <;> rcases h2 with rfl | rfl | rfl | rfl | rfl | rfl | rfl | rfl | rfl <;> decide
/-- the first word names an op -/
theorem parseW_named {p : List UInt8} {ps : List (List UInt8)} {k : Nat} (hk : k < 9) (hp : wordF k = p) : parseW (p :: ps) = if ps.length = (formF k).length then (ps.mapM valF).map (buildI k (formF k)) else none := by
  subst hp
  unfold parseW
  by_cases hl : ps.length = (formF k).length
  · rw [if_pos hl, find_at hk (by simp [matchB, hl]; omega) (fun j hj => by
      have : wordF k ≠ wordF j := fun e => by have := wordF_inj hk (by omega) e; omega
      simp [matchB, this])]
    rfl
  · rw [if_neg hl, find_no (fun j hj => by
      by_cases e : k = j
      · subst e
        simp [matchB]
        omega
      · have : wordF k ≠ wordF j := fun h => e (wordF_inj hk hj h)
        simp [matchB, this])]
theorem parseW_no {p : List UInt8} {ps : List (List UInt8)} (hp : ∀ k : Nat, k < 9 → wordF k ≠ p) : parseW (p :: ps) = none := by
  unfold parseW
  rw [find_no (fun j hj => by
    have : p ≠ wordF j := fun h => hp j hj h.symm
    simp [matchB, this])]
theorem count_parts (c : UInt8) : ∀ (n : Nat) (s : List UInt8), s.length ≤ n → Lib.count s [c] + 1 = (partsF c s).length
  | n, s, hn => by
    rcases index_split c s with ⟨h1, h2⟩ | ⟨p, r, rfl, h1, h2⟩
    · rw [partsF_miss c s h1, Lib.count_miss h2]
      rfl
    · rw [partsF_hit c p r h1, Lib.count_hit (by simp) h2]
      have hd : (p ++ c :: r).drop (p.length + [c].length) = r := by simp
      rw [hd]
      match n, hn with
      | 0, hn => simp at hn
      | n + 1, hn =>
        have := count_parts c n r (by simp at hn; omega)
        simp only [List.length_cons]
        omega
theorem split_parts (s : List UInt8) : (Lib.splitB ⟨#[32]⟩ 0 (Lib.countB ⟨s.toArray⟩ ⟨#[32]⟩) ⟨s.toArray⟩).map (·.data.toList) = partsF 32 s := by
  rw [Lib.splitB_data]
  have h := count_parts 32 s.length s (Nat.le_refl _)
  exact (splitK_parts 32 _ s).1 (by show (partsF 32 s).length ≤ Lib.count s [32] + 1; omega)
end Go.Proofs.YtgbgjlmkmlhefaaGreatDoor
