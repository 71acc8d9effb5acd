/- Slices of structs of two integers: the cells are the fields in a row. Plain lemmas, no condition. -/
import Derived.Test.YtkpgjeeofghldaaFlat
import Derived.Test.YtkpgjeeofghldaaInts
import Derived.Deep.RegionHeld3
namespace Go.Proofs.Ytkpgjeeofghldaa
set_option maxRecDepth 20000
set_option linter.unusedSimpArgs false
set_option linter.unusedVariables false
open Go.ChangeShapes Go.WideShapes Go.ChangeAt Go.RowKit
set_option linter.unusedVariables false
/-- two integers -/
structure P2 where
  a : Int
  b : Int
deriving DecidableEq
def P2.l (i : P2) : List Int := [i.a, i.b]
def p2C (i : P2) : List Value := [.int .i64 i.a, .int .i64 i.b]
def fl2 (xs : List P2) : List Int := xs.flatMap P2.l
def flc2 (xs : List P2) : List Value := ints (fl2 xs)
theorem fl2_nil : fl2 [] = [] := rfl
theorem fl2_cons (i : P2) (xs : List P2) : fl2 (i :: xs) = [i.a, i.b] ++ fl2 xs := by simp [fl2, P2.l]
theorem fl2_append (xs ys : List P2) : fl2 (xs ++ ys) = fl2 xs ++ fl2 ys := by simp [fl2]
theorem fl2_len (xs : List P2) : (fl2 xs).length = xs.length * 2 := by
  induction xs with
  | nil => rfl
  | cons i xs ih => rw [fl2_cons, List.length_append, ih]; simp; omega
theorem flc2_len (xs : List P2) : (flc2 xs).length = xs.length * 2 := by rw [flc2, ints_len, fl2_len]
theorem flc2_append (xs ys : List P2) : flc2 (xs ++ ys) = flc2 xs ++ flc2 ys := by simp [flc2, fl2_append, ints]
theorem flc2_one (i : P2) : flc2 [i] = p2C i := rfl
theorem flc2_snoc {xs : List P2} {k : Nat} {x : P2} (h : xs[k]? = some x) : flc2 (xs.take k) ++ p2C x = flc2 (xs.take (k + 1)) := by
  rw [List.take_add_one, h, flc2_append]
  rfl
theorem flc2_at : ∀ {xs : List P2} {k : Nat} {x : P2}, xs[k]? = some x → ∀ j < 2, (flc2 xs)[k * 2 + j]? = (p2C x)[j]?
  | [], k, x, h, j, hj => by simp at h
  | i :: xs, 0, x, h, j, hj => by
    simp only [List.getElem?_cons_zero, Option.some.injEq] at h
    subst h
    have : flc2 (i :: xs) = p2C i ++ flc2 xs := flc2_append [i] xs
    rw [this, List.getElem?_append_left (by simp [p2C]; omega)]
    simp
  | i :: xs, k + 1, x, h, j, hj => by
    have : flc2 (i :: xs) = p2C i ++ flc2 xs := flc2_append [i] xs
    rw [this, List.getElem?_append_right (by simp [p2C]; omega)]
    have e : (k + 1) * 2 + j - (p2C i).length = k * 2 + j := by simp [p2C]; omega
    rw [e]
    exact flc2_at (by simpa using h) j hj
/-- the two cells of an element -/
def P2At (w : World) (b o : Nat) (x : P2) : Prop :=
  w.cell? ⟨b, o, none⟩ = some (.int .i64 x.a) ∧ w.cell? ⟨b, o + 1, none⟩ = some (.int .i64 x.b)
theorem p2_at {w : World} {b o k : Nat} {xs : List P2} (hc : ∀ j u, (flc2 xs)[j]? = some u → w.cell? ⟨b, o + j, none⟩ = some u) (h : k < xs.length) :
    ∃ x, Hid (xs[k]? = some x) ∧ P2At w b (o + k * 2) x := by
  have hx : xs[k]? = some xs[k] := List.getElem?_eq_getElem h
  refine ⟨xs[k], Lib.hid hx, ?_, ?_⟩
  · exact hc (k * 2 + 0) _ (flc2_at hx 0 (by omega))
  · exact hc (k * 2 + 1) _ (flc2_at hx 1 (by omega))
def p2Part (xs : List P2) (k : Nat) : List Value := flc2 (xs.take k) ++ List.replicate ((xs.length - k) * 2) (.int .i64 0)
theorem p2Part_zero (xs : List P2) : (madeCells #[.int .i64 0, .int .i64 0] (xs.length * 2)).toList = p2Part xs 0 := by
  apply List.ext_getElem?
  intro j
  by_cases hj : j < xs.length * 2
  · have h4 : j % 2 < 2 := Nat.mod_lt _ (by omega)
    have hz : (#[.int .i64 0, .int .i64 0] : Array Value)[j % 2]! = .int .i64 0 := by
      have : j % 2 = 0 ∨ j % 2 = 1 := by omega
      rcases this with h | h <;> rw [h] <;> rfl
    have hs : (#[.int .i64 0, .int .i64 0] : Array Value).size = 2 := rfl
    simp only [madeCells, Array.toList_map, List.getElem?_map, Array.toList_range, List.getElem?_range hj, Option.map_some, hs, hz, p2Part, List.take_zero]
    simp [flc2, fl2, ints, hj]
  · simp [madeCells, hj, p2Part, flc2, fl2, ints]
theorem p2Part_all (xs : List P2) : p2Part xs xs.length = flc2 xs := by simp [p2Part]
theorem p2Part_at {xs : List P2} {k : Nat} (h : k < xs.length) (j : Nat) (hj : j < 2) : (p2Part xs k)[k * 2 + j]? = some (.int .i64 0) := by
  have hl : (flc2 (xs.take k)).length = k * 2 := by rw [flc2_len, List.length_take]; omega
  unfold p2Part
  rw [List.getElem?_append_right (by omega), hl, List.getElem?_replicate, if_pos (by omega)]
theorem set2 {L R : List Value} {k : Nat} (a b a' b' : Value) (hl : L.length = k * 2) :
    (((L ++ a :: b :: R).set (k * 2) a').set (k * 2 + 1) b') = L ++ a' :: b' :: R := by
  subst_vars
  rw [List.set_append, if_neg (by omega), List.set_append, if_neg (by omega)]
  simp [hl, show k * 2 + 1 - k * 2 = 1 from by omega]
theorem p2Part_set {xs : List P2} {k : Nat} {x : P2} (h : xs[k]? = some x) :
    (((p2Part xs k).set (k * 2) (.int .i64 x.a)).set (k * 2 + 1) (.int .i64 x.b)) = p2Part xs (k + 1) := by
  obtain ⟨hk, hx⟩ := List.getElem?_eq_some_iff.1 h
  have hl : (flc2 (xs.take k)).length = k * 2 := by rw [flc2_len, List.length_take]; omega
  unfold p2Part
  rw [show (xs.length - k) * 2 = (xs.length - (k + 1)) * 2 + 1 + 1 from by omega, List.replicate_succ, List.replicate_succ, set2 _ _ _ _ hl,
    ← flc2_snoc h, List.append_assoc]
  rfl
section
variable {w : World} {base g n cap : Nat} {e : TypeId} {size : Nat} {L : List Value}
theorem owns_set2 (h : w.ownsRow base e size (.slice (some ⟨g, 0, none⟩) n cap) n L) (i j : Nat) (a b : Value) :
    ((w.setCell ⟨g, i, none⟩ a).setCell ⟨g, j, none⟩ b).ownsRow base e size (.slice (some ⟨g, 0, none⟩) n cap) n ((L.set i a).set j b) :=
  ((h.stored i a).1.stored j b).1
theorem below_set2 {B : Nat} {w w' : World} (h : Below B w w') (hg : B ≤ g) (i j : Nat) (a b : Value) :
    Below B w ((w'.setCell ⟨g, i, none⟩ a).setCell ⟨g, j, none⟩ b) :=
  (h.setCell hg _).setCell hg _
end
/-- the same cells of a slice that came in -/
theorem p2_atA {w wr : World} {ad : Addr} {k : Nat} {xs : List P2} (hc : ∀ j u, (flc2 xs)[j]? = some u → w.cell? (ad.add j) = some u) (h : k < xs.length) {B : Nat} (hB : Below B w wr) (hb : ad.block < B) :
    ∃ x, Hid (xs[k]? = some x) ∧ wr.cell? (ad.add (k * 2)) = some (.int .i64 x.a) ∧ wr.cell? ⟨(ad.add (k * 2)).block, (ad.add (k * 2)).off + 1, none⟩ = some (.int .i64 x.b) := by
  have hx : xs[k]? = some xs[k] := List.getElem?_eq_getElem h
  have hh : ∀ j u, (flc2 xs)[j]? = some u → wr.cell? (ad.add j) = some u := fun j u hu => (hB.cell (p := ad.add j) (by rw [add_block]; exact hb)).trans (hc j u hu)
  refine ⟨xs[k], Lib.hid hx, ?_, ?_⟩
  · exact hh (k * 2 + 0) _ (flc2_at hx 0 (by omega))
  · rw [← add_more ad _ 1 (by omega)]
    exact hh (k * 2 + 1) _ (flc2_at hx 1 (by omega))
theorem markPart_set2 {xs : List Int} {m : Int} {k : Nat} (h : k * 2 + 1 < xs.length) : (((markPart xs m (k * 2)).set (k * 2) (.int .i64 (m + k * 2))).set (k * 2 + 1) (.int .i64 (m + k * 2 + 1))) = markPart xs m ((k + 1) * 2) := by
  have e1 := markPart_set (xs := xs) (m := m) (k := k * 2) (by omega)
  have e2 := markPart_set (xs := xs) (m := m) (k := k * 2 + 1) (by omega)
  rw [show (m + ((k * 2 : Nat) : Int)) = m + k * 2 from by omega] at e1
  rw [show (m + ((k * 2 + 1 : Nat) : Int)) = m + k * 2 + 1 from by omega] at e2
  rw [e1, e2, show k * 2 + 1 + 1 = (k + 1) * 2 from by omega]
end Go.Proofs.Ytkpgjeeofghldaa
