/- Slices of structs whose fields are integers: the cells are the fields in a row. Plain lemmas. -/
import Derived.Test.YtkpgjeeofghldaaBase
import Derived.OwnWalk
import Derived.BigQuiet
namespace Go.Proofs.Ytkpgjeeofghldaa
set_option maxRecDepth 20000
set_option linter.unusedSimpArgs false
set_option linter.unusedVariables false
open Go.RowKit
set_option linter.unusedVariables false
/-- a world behind w: old memory as it was, new blocks perhaps; and a region that only reads and whose callees may make memory, walked once in the order of the text -/
structure Past (w : World) where
  v : World
  hb : Below w.heap.size w v
instance pastSome (w : World) : Nonempty (Past w) := ⟨⟨w, Below.refl _ _⟩⟩
theorem wp_region_past {P : Program} {id : Nat} {Q : Exit → Act → World → Prop} {a : Act} {w : World} {l : List Oper} (hm : P.follows .mixedOrders = true) (hB : Region.lexB .any l.toArray = true)
    (h : wpQuiet P l.toArray (fun w' => ∃ p : Past w, w' = p.v) (fun a' => ∀ w', (∃ p : Past w, w' = p.v) → Q .normal a' w') l a) : (Code.region id l.toArray true).wp P Q a w :=
  wp_region_quiet (C := fun w' => ∃ p : Past w, w' = p.v) hm hB ⟨⟨w.drew, (Below.refl _ _).drew⟩, rfl⟩ (by simpa using h)
theorem Calls.past_of {P : Program} {f : FuncId} {args : Array Value} {w : World} {p : Past w} {v : Value} (h : Calls P f args p.v fun e w' => e = .returned v ∧ Below p.v.heap.size p.v w') :
    Calls P f args p.v fun e w'' => e = .returned v ∧ ∃ q : Past w, w'' = q.v :=
  h.mono fun _ w' ⟨he, hb⟩ => ⟨he, ⟨w', p.hb.trans (hb.mono p.hb.size)⟩, rfl⟩
theorem Past.cell {w : World} {b o : Nat} {x : Value} (hb : b < w.heap.size) (h : w.cell? ⟨b, o, none⟩ = some x) (p : Past w) : p.v.cell? ⟨b, o, none⟩ = some x := (p.hb.cell (p := ⟨b, o, none⟩) hb).trans h
/-- an instruction -/
structure Ins where
  o : Int
  r : Int
  s : Int
  n : Int
deriving DecidableEq
def Ins.l (i : Ins) : List Int := [i.o, i.r, i.s, i.n]
def insV (i : Ins) : Value := .agg #[.int .i64 i.o, .int .i64 i.r, .int .i64 i.s, .int .i64 i.n]
def insC (i : Ins) : List Value := [.int .i64 i.o, .int .i64 i.r, .int .i64 i.s, .int .i64 i.n]
def fl (xs : List Ins) : List Int := xs.flatMap Ins.l
def flc (xs : List Ins) : List Value := ints (fl xs)
theorem fl_nil : fl [] = [] := rfl
theorem fl_cons (i : Ins) (xs : List Ins) : fl (i :: xs) = [i.o, i.r, i.s, i.n] ++ fl xs := by simp [fl, Ins.l]
theorem fl_append (xs ys : List Ins) : fl (xs ++ ys) = fl xs ++ fl ys := by simp [fl]
theorem fl_len (xs : List Ins) : (fl xs).length = xs.length * 4 := by
  induction xs with
  | nil => rfl
  | cons i xs ih => rw [fl_cons, List.length_append, ih]; simp; omega
theorem flc_len (xs : List Ins) : (flc xs).length = xs.length * 4 := by rw [flc, ints_len, fl_len]
theorem flc_append (xs ys : List Ins) : flc (xs ++ ys) = flc xs ++ flc ys := by simp [flc, fl_append, ints]
theorem flc_one (i : Ins) : flc [i] = insC i := rfl
theorem flc_snoc {xs : List Ins} {k : Nat} {x : Ins} (h : xs[k]? = some x) : flc (xs.take k) ++ insC x = flc (xs.take (k + 1)) := by
  rw [List.take_add_one, h, flc_append]
  rfl
theorem fl_inj : ∀ {xs ys : List Ins}, fl xs = fl ys → xs = ys
  | [], [], _ => rfl
  | [], j :: ys, h => by simp [fl, Ins.l] at h
  | i :: xs, [], h => by simp [fl, Ins.l] at h
  | i :: xs, j :: ys, h => by
    rw [fl_cons, fl_cons] at h
    simp only [List.cons_append, List.nil_append, List.cons.injEq] at h
    obtain ⟨h1, h2, h3, h4, h5⟩ := h
    obtain ⟨a, b, c, d⟩ := i
    obtain ⟨a', b', c', d'⟩ := j
    simp only at h1 h2 h3 h4
    subst h1 h2 h3 h4
    rw [fl_inj h5]
theorem flc_at : ∀ {xs : List Ins} {k : Nat} {x : Ins}, xs[k]? = some x → ∀ j < 4, (flc xs)[k * 4 + j]? = (insC x)[j]?
  | [], k, x, h, j, hj => by simp at h
  | i :: xs, 0, x, h, j, hj => by
    simp only [List.getElem?_cons_zero, Option.some.injEq] at h
    subst h
    have : flc (i :: xs) = insC i ++ flc xs := flc_append [i] xs
    rw [this, List.getElem?_append_left (by simp [insC]; omega)]
    simp
  | i :: xs, k + 1, x, h, j, hj => by
    have : flc (i :: xs) = insC i ++ flc xs := flc_append [i] xs
    rw [this, List.getElem?_append_right (by simp [insC]; omega)]
    have e : (k + 1) * 4 + j - (insC i).length = k * 4 + j := by simp [insC]; omega
    rw [e]
    exact flc_at (by simpa using h) j hj
/-- the four cells of an element -/
def Ins4 (w : World) (b o : Nat) (x : Ins) : Prop :=
  w.cell? ⟨b, o, none⟩ = some (.int .i64 x.o) ∧ w.cell? ⟨b, o + 1, none⟩ = some (.int .i64 x.r) ∧ w.cell? ⟨b, o + 2, none⟩ = some (.int .i64 x.s) ∧ w.cell? ⟨b, o + 3, none⟩ = some (.int .i64 x.n)
theorem ins_at {w : World} {b o k : Nat} {xs : List Ins} (hc : ∀ j u, (flc xs)[j]? = some u → w.cell? ⟨b, o + j, none⟩ = some u) (h : k < xs.length) :
    ∃ x, Hid (xs[k]? = some x) ∧ Ins4 w b (o + k * 4) x := by
  have hx : xs[k]? = some xs[k] := List.getElem?_eq_getElem h
  refine ⟨xs[k], Lib.hid hx, ?_, ?_, ?_, ?_⟩
  · exact hc (k * 4 + 0) _ (flc_at hx 0 (by omega))
  · exact hc (k * 4 + 1) _ (flc_at hx 1 (by omega))
  · exact hc (k * 4 + 2) _ (flc_at hx 2 (by omega))
  · exact hc (k * 4 + 3) _ (flc_at hx 3 (by omega))
def insPart (xs : List Ins) (k : Nat) : List Value := flc (xs.take k) ++ List.replicate ((xs.length - k) * 4) (.int .i64 0)
theorem insPart_zero (xs : List Ins) : (madeCells #[.int .i64 0, .int .i64 0, .int .i64 0, .int .i64 0] (xs.length * 4)).toList = insPart xs 0 := by
  apply List.ext_getElem?
  intro j
  by_cases hj : j < xs.length * 4
  · have h4 : j % 4 < 4 := Nat.mod_lt _ (by omega)
    have hz : (#[.int .i64 0, .int .i64 0, .int .i64 0, .int .i64 0] : Array Value)[j % 4]! = .int .i64 0 := by
      have : j % 4 = 0 ∨ j % 4 = 1 ∨ j % 4 = 2 ∨ j % 4 = 3 := by omega
      rcases this with h | h | h | h <;> rw [h] <;> rfl
    have hs : (#[.int .i64 0, .int .i64 0, .int .i64 0, .int .i64 0] : Array Value).size = 4 := rfl
    simp only [madeCells, Array.toList_map, List.getElem?_map, Array.toList_range, List.getElem?_range hj, Option.map_some, hs, hz, insPart, List.take_zero]
    simp [flc, fl, ints, hj]
  · simp [madeCells, hj, insPart, flc, fl, ints]
theorem insPart_all (xs : List Ins) : insPart xs xs.length = flc xs := by simp [insPart]
theorem insPart_at {xs : List Ins} {k : Nat} (h : k < xs.length) (j : Nat) (hj : j < 4) : (insPart xs k)[k * 4 + j]? = some (.int .i64 0) := by
  have hl : (flc (xs.take k)).length = k * 4 := by rw [flc_len, List.length_take]; omega
  unfold insPart
  rw [List.getElem?_append_right (by omega), hl, List.getElem?_replicate, if_pos (by omega)]
theorem set4 {L R : List Value} {k : Nat} (a b c d a' b' c' d' : Value) (hl : L.length = k * 4) :
    ((((L ++ a :: b :: c :: d :: R).set (k * 4) a').set (k * 4 + 1) b').set (k * 4 + 2) c').set (k * 4 + 3) d' = L ++ a' :: b' :: c' :: d' :: R := by
  subst_vars
  rw [List.set_append, if_neg (by omega), List.set_append, if_neg (by omega), List.set_append, if_neg (by omega), List.set_append, if_neg (by omega)]
  simp [hl, show k * 4 + 1 - k * 4 = 1 from by omega, show k * 4 + 2 - k * 4 = 2 from by omega, show k * 4 + 3 - k * 4 = 3 from by omega]
theorem insPart_set {xs : List Ins} {k : Nat} {x : Ins} (h : xs[k]? = some x) :
    ((((insPart xs k).set (k * 4) (.int .i64 x.o)).set (k * 4 + 1) (.int .i64 x.r)).set (k * 4 + 2) (.int .i64 x.s)).set (k * 4 + 3) (.int .i64 x.n) = insPart xs (k + 1) := by
  obtain ⟨hk, hx⟩ := List.getElem?_eq_some_iff.1 h
  have hl : (flc (xs.take k)).length = k * 4 := by rw [flc_len, List.length_take]; omega
  unfold insPart
  rw [show (xs.length - k) * 4 = (xs.length - (k + 1)) * 4 + 1 + 1 + 1 + 1 from by omega, List.replicate_succ, List.replicate_succ, List.replicate_succ, List.replicate_succ, set4 _ _ _ _ _ _ _ _ hl,
    ← flc_snoc h, List.append_assoc]
  rfl
section
variable {w : World} {base g n cap : Nat} {e : TypeId} {size : Nat} {L : List Value}
theorem owns_set4 (h : w.ownsRow base e size (.slice (some ⟨g, 0, none⟩) n cap) n L) (i j k l : Nat) (a b c d : Value) :
    ((((w.setCell ⟨g, i, none⟩ a).setCell ⟨g, j, none⟩ b).setCell ⟨g, k, none⟩ c).setCell ⟨g, l, none⟩ d).ownsRow base e size (.slice (some ⟨g, 0, none⟩) n cap) n ((((L.set i a).set j b).set k c).set l d) :=
  ((((h.stored i a).1.stored j b).1.stored k c).1.stored l d).1
theorem below_set4 {B : Nat} {w w' : World} (h : Below B w w') (hg : B ≤ g) (i j k l : Nat) (a b c d : Value) :
    Below B w ((((w'.setCell ⟨g, i, none⟩ a).setCell ⟨g, j, none⟩ b).setCell ⟨g, k, none⟩ c).setCell ⟨g, l, none⟩ d) :=
  (((h.setCell hg _).setCell hg _).setCell hg _).setCell hg _
end
theorem add_more (ad : Addr) (n j : Nat) (hj : 0 < j) : ad.add (n + j) = ⟨(ad.add n).block, (ad.add n).off + j, none⟩ := by
  unfold Addr.add
  rw [if_neg (by omega)]
  split
  · rename_i h
    subst h
    simp
  · simp
    omega
theorem ownsRow_below {w w' : World} {base n : Nat} {e : TypeId} {size : Nat} {v : Value} {L : List Value} (h : w.ownsRow base e size v n L) (hb : Below w.heap.size w w') : w'.ownsRow base e size v n L := by
  obtain ⟨hl, ⟨rfl, rfl⟩ | ⟨g, cap, cur, rfl, h1, hg, h2⟩⟩ := h
  · exact ⟨hl, .inl ⟨rfl, rfl⟩⟩
  · exact ⟨hl, .inr ⟨g, cap, cur, rfl, h1, (hb.block g (Array.getElem?_eq_some_iff.1 hg).1).trans hg, h2⟩⟩
/-- the same cells of a slice that came in -/
theorem ins_atA {w wr : World} {ad : Addr} {k : Nat} {xs : List Ins} (hc : ∀ j u, (flc xs)[j]? = some u → w.cell? (ad.add j) = some u) (h : k < xs.length) {B : Nat} (hB : Below B w wr) (hb : ad.block < B) :
    ∃ x, Hid (xs[k]? = some x) ∧ wr.cell? (ad.add (k * 4)) = some (.int .i64 x.o) ∧ wr.cell? ⟨(ad.add (k * 4)).block, (ad.add (k * 4)).off + 1, none⟩ = some (.int .i64 x.r) ∧
      wr.cell? ⟨(ad.add (k * 4)).block, (ad.add (k * 4)).off + 2, none⟩ = some (.int .i64 x.s) ∧ wr.cell? ⟨(ad.add (k * 4)).block, (ad.add (k * 4)).off + 3, none⟩ = some (.int .i64 x.n) := by
  have hx : xs[k]? = some xs[k] := List.getElem?_eq_getElem h
  have hh : ∀ j u, (flc xs)[j]? = some u → wr.cell? (ad.add j) = some u := fun j u hu => (hB.cell (p := ad.add j) (by rw [add_block]; exact hb)).trans (hc j u hu)
  refine ⟨xs[k], Lib.hid hx, ?_, ?_, ?_, ?_⟩
  · exact hh (k * 4 + 0) _ (flc_at hx 0 (by omega))
  · rw [← add_more ad _ 1 (by omega)]
    exact hh (k * 4 + 1) _ (flc_at hx 1 (by omega))
  · rw [← add_more ad _ 2 (by omega)]
    exact hh (k * 4 + 2) _ (flc_at hx 2 (by omega))
  · rw [← add_more ad _ 3 (by omega)]
    exact hh (k * 4 + 3) _ (flc_at hx 3 (by omega))
theorem take_snoc_eq {α : Type} {xs ys : List α} {k : Nat} (h : xs.take k = ys.take k) (he : xs[k]? = ys[k]?) : xs.take (k + 1) = ys.take (k + 1) := by
  rw [List.take_add_one, List.take_add_one, h, he]
end Go.Proofs.Ytkpgjeeofghldaa
