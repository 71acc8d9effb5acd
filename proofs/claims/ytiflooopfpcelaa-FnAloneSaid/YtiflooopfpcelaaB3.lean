/- Contracts of chapter 3's model functions (package spec): DrainOne. Condition: the slices can be read. -/
import Derived.Test.YtiflooopfpcelaaB2
import Derived.Deep.RegionHeld3
namespace Go.Proofs.Ytiflooopfpcelaa
set_option maxRecDepth 20000
set_option linter.unusedSimpArgs false
set_option linter.unusedVariables false
open Go.ChangeShapes Go.WideShapes Go.ChangeAt Go.RowKit
set_option linter.unusedVariables false
def drOk : List P2 → List Int → Bool
  | [], _ => false
  | x :: xs, ms => bufOk (x :: xs) && pokeOk ms x.a x.b
def drB (xs : List P2) (ms : List Int) : List P2 := if drOk xs ms then xs.tail else xs
def drM : List P2 → List Int → List Int
  | [], ms => ms
  | x :: xs, ms => if bufOk (x :: xs) then pokeF ms x.a x.b else ms
def RetDrain (L : List P2) (M : List Int) (ok : Bool) (w : World) (e : Ending) (w' : World) : Prop :=
  ∃ v1 bs1 v2 bs2, e = .returned (.tuple #[v1, .agg #[v2], .bool ok]) ∧ Own w' v1 2 L.length (flc2 L) bs1 ∧ Own w' v2 1 M.length (ints M) bs2 ∧ (∀ b ∈ bs1, w.heap.size ≤ b) ∧ (∀ b ∈ bs2, w.heap.size ≤ b) ∧ Below w.heap.size w w'
theorem pokeF_len (ms : List Int) (a x : Int) : (pokeF ms a x).length = ms.length := by unfold pokeF; split <;> simp
theorem wf_small {x : Int} (h : -1000001 ≤ x ∧ x ≤ 1000001) : (Lit.int .i64 x).wf = true := WalkArith.wf_i64 (by omega)
theorem slot_wf {xs : List P2} {x : P2} {k : Nat} (h : bufOk xs = true) (hx : xs[k]? = some x) : 0 ≤ x.a ∧ x.a ≤ 15 ∧ (Lit.int .i64 x.a).wf = true := by
  simp only [bufOk, Bool.and_eq_true, List.all_eq_true] at h
  have := h.2 x (List.mem_of_getElem? hx)
  simp only [slotOk, Bool.and_eq_true] at this
  have := inB_true this.1
  exact ⟨this.1, this.2, wf_small (by omega)⟩
/-- the same, the two results' blocks apart: the slots' below mid, the memory's from mid on -/
def RetDrainM (L : List P2) (M : List Int) (ok : Bool) (w : World) (e : Ending) (w' : World) : Prop :=
  ∃ v1 bs1 v2 bs2 mid, e = .returned (.tuple #[v1, .agg #[v2], .bool ok]) ∧ Own w' v1 2 L.length (flc2 L) bs1 ∧ Own w' v2 1 M.length (ints M) bs2 ∧ (∀ b ∈ bs1, w.heap.size ≤ b) ∧ (∀ b ∈ bs1, b < mid) ∧ (∀ b ∈ bs2, mid ≤ b) ∧ w.heap.size ≤ mid ∧ Below w.heap.size w w'
theorem RetDrainM.plain {L : List P2} {M : List Int} {ok : Bool} {w w' : World} {e : Ending} (h : RetDrainM L M ok w e w') : RetDrain L M ok w e w' := by
  obtain ⟨v1, bs1, v2, bs2, mid, he, h1, h2, h3, h4, h5, h6, h7⟩ := h
  exact ⟨v1, bs1, v2, bs2, he, h1, h2, h3, fun b hb => Nat.le_trans h6 (h5 b hb), h7⟩
theorem drain_back {w w6 w7 : World} {B : Nat} {t : TypeId} {xs L : List P2} {ms M : List Int} {ok : Bool} {v6 : Value} {A7 : Option Addr} {c7 : Nat} {bs7 : List Nat} {x : Value} (hB6 : Below w.heap.size w w6) (hO6 : w6.ownsRow B t 2 v6 xs.length (flc2 xs)) (hBB : w.heap.size + 2 ≤ B)
    (h7 : Own w7 (.slice A7 ms.length c7) 1 ms.length (ints ms) bs7) (hbs7 : ∀ b ∈ bs7, w6.heap.size ≤ b) (hb7 : Below w6.heap.size w6 w7) (hlt : w.heap.size + 2 ≤ w6.heap.size) (HF : L = xs ∧ M = ms ∧ ok = false) :
    RetDrainM L M ok w (.returned (.tuple #[v6, .agg #[.slice A7 ms.length c7], .bool false])) (w7.setCell ⟨w.heap.size + 1, 0, none⟩ x) := by
  obtain ⟨rfl, rfl, rfl⟩ := HF
  obtain ⟨bs6, h6, hl6⟩ := Own.of_owns hO6
  have hi6 := h6.lt
  refine ⟨v6, bs6, _, bs7, w6.heap.size, rfl, (h6.below hb7).far fun k hk => by have := hl6 k hk; omega, h7.far fun k hk => by have := hbs7 k hk; omega, fun b hb => by have := hl6 b hb; omega, hi6, hbs7, hB6.size, (hB6.trans (hb7.mono hB6.size)).setCell (Nat.le_succ _) _⟩
theorem rd_tail {w : World} {b o c : Nat} {xs ys : List P2} {At : Option Addr} (h : Rd w (.slice (some ⟨b, o, none⟩) xs.length c) 2 xs.length (flc2 xs)) (hl : 0 < xs.length) (hys : xs.tail = ys) (hAt : (if c = 1 then some (⟨b, o, none⟩ : Addr) else some ⟨b, o + 2, none⟩) = At) :
    Rd w (.slice At ys.length (c - 1)) 2 ys.length (flc2 ys) := by
  obtain ⟨A', c', he, -, hc, hm, hr⟩ := h
  injection he with e1 e2 e3
  subst e1
  subst e3
  obtain ⟨b', o', e, hb, hcell⟩ := hr hl
  injection e with e
  injection e with e1 e2
  subst e1
  subst e2
  cases xs with
  | nil => simp at hl
  | cons x xs =>
    simp only [List.tail_cons] at hys
    subst hys
    simp only [List.length_cons] at hc
    refine ⟨At, c - 1, rfl, flc2_len _, by omega, by omega, fun hp => ⟨b, o + 2, ?_, hb, fun j u hu => ?_⟩⟩
    · rw [← hAt, if_neg (by omega)]
    · have := hcell (2 + j) u (by rw [show flc2 (x :: xs) = p2C x ++ flc2 xs from flc2_append [x] xs, List.getElem?_append_right (by simp [p2C])]; simpa [p2C] using hu)
      rw [Nat.add_assoc]
      exact this
theorem drain_on {w wc w6 : World} {B : Nat} {t : TypeId} {ys L : List P2} {ms M : List Int} {ok : Bool} {v6 : Value} {A9 : Option Addr} {c9 : Nat} {bs9 : List Nat} {x : Value} (hBc : Below w.heap.size w wc) (hB6 : Below wc.heap.size wc w6) (hO6 : w6.ownsRow B t 2 v6 ys.length (flc2 ys)) (hB : w.heap.size + 2 ≤ B)
    (h9 : Own wc (.slice A9 ms.length c9) 1 ms.length (ints ms) bs9) (hbs9 : ∀ b ∈ bs9, w.heap.size + 2 ≤ b) (HF : L = ys ∧ M = ms ∧ ok = true) :
    RetDrain L M ok w (.returned (.tuple #[v6, .agg #[.slice A9 ms.length c9], .bool true])) (w6.setCell ⟨w.heap.size + 1, 0, none⟩ x) := by
  obtain ⟨rfl, rfl, rfl⟩ := HF
  obtain ⟨bs6, h6, hl6⟩ := Own.of_owns hO6
  refine ⟨v6, bs6, _, bs9, rfl, h6.far fun k hk => by have := hl6 k hk; omega, (h9.below hB6).far fun k hk => by have := hbs9 k hk; omega, fun b hb => by have := hl6 b hb; omega, fun b hb => by have := hbs9 b hb; omega, (hBc.trans (hB6.mono hBc.size)).setCell (Nat.le_succ _) _⟩
end Go.Proofs.Ytiflooopfpcelaa
