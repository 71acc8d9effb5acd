/- The pure model of chapter 8's play: what a list of operations makes of a heap and the references that it has given. And a play on memory: a struct of a heap's rows and a row of references. Plain lemmas, no condition. -/
import Derived.Test.YtpenneklpolhgaaDoorH12
import Derived.Test.YtpenneklpolhgaaDoorH3
import Derived.Test.YtpenneklpolhgaaDoorMH
namespace Go.Proofs.YtpenneklpolhgaaDoor
set_option maxRecDepth 20000
set_option linter.unusedSimpArgs false
set_option linter.unusedVariables false
open Go.ChangeShapes Go.WideShapes Go.ChangeAt Go.RowKit
set_option linter.unusedVariables false
/-- a heap, the references given, what was told -/
structure Ps where
  h : Hp
  rs : List P2
  t : List Int
def stepS (s : Ps) (op : P2) : Ps :=
  if op.a = 0 then (if allocOk s.h then ⟨allocH s.h, s.rs ++ [allocR s.h], s.t ++ [(allocR s.h).a]⟩ else ⟨allocH s.h, s.rs, s.t ++ [-1]⟩)
  else if inB op.b 0 ((s.rs.length : Int) - 1) then
    (if op.a = 1 then ⟨freeH s.h (s.rs.getD op.b.toNat ⟨0, 0⟩), s.rs, s.t ++ [freeC s.h (s.rs.getD op.b.toNat ⟨0, 0⟩)]⟩
     else if op.a = 2 then ⟨s.h, s.rs, s.t ++ [if goodB s.h (s.rs.getD op.b.toNat ⟨0, 0⟩) then 0 else 2]⟩
     else ⟨s.h, s.rs, s.t ++ [1]⟩)
  else ⟨s.h, s.rs, s.t ++ [1]⟩
/-- what one step tells -/
def tellS (s : Ps) (op : P2) : Int := (stepS s op).t.getLast?.getD 0
theorem stepS_alloc {s : Ps} {op : P2} (h0 : op.a = 0) (ho : allocOk s.h = true) : stepS s op = ⟨allocH s.h, s.rs ++ [allocR s.h], s.t ++ [(allocR s.h).a]⟩ := by simp [stepS, h0, ho]
theorem stepS_full {s : Ps} {op : P2} (h0 : op.a = 0) (ho : allocOk s.h = false) : stepS s op = ⟨allocH s.h, s.rs, s.t ++ [-1]⟩ := by simp [stepS, h0, ho]
theorem stepS_out {s : Ps} {op : P2} (h0 : op.a ≠ 0) (hi : inB op.b 0 ((s.rs.length : Int) - 1) = false) : stepS s op = ⟨s.h, s.rs, s.t ++ [1]⟩ := by simp [stepS, h0, hi]
theorem stepS_free {s : Ps} {op : P2} {k : Nat} {r : P2} (h0 : op.a = 1) (hk : op.b = k) (hr : s.rs[k]? = some r) : stepS s op = ⟨freeH s.h r, s.rs, s.t ++ [freeC s.h r]⟩ := by
  have hl := (List.getElem?_eq_some_iff.1 hr).1
  have hi : inB op.b 0 ((s.rs.length : Int) - 1) = true := by simp [inB, hk]; omega
  have e : s.rs.getD op.b.toNat ⟨0, 0⟩ = r := by simp [hk, List.getD_eq_getElem?_getD, hr]
  unfold stepS
  rw [hi, e]
  simp [h0]
theorem stepS_check {s : Ps} {op : P2} {k : Nat} {r : P2} (h0 : op.a = 2) (hk : op.b = k) (hr : s.rs[k]? = some r) : stepS s op = ⟨s.h, s.rs, s.t ++ [if goodB s.h r then 0 else 2]⟩ := by
  have hl := (List.getElem?_eq_some_iff.1 hr).1
  have hi : inB op.b 0 ((s.rs.length : Int) - 1) = true := by simp [inB, hk]; omega
  have e : s.rs.getD op.b.toNat ⟨0, 0⟩ = r := by simp [hk, List.getD_eq_getElem?_getD, hr]
  unfold stepS
  rw [hi, e]
  simp [h0]
theorem stepS_other {s : Ps} {op : P2} (h0 : op.a ≠ 0) (h1 : op.a ≠ 1) (h2 : op.a ≠ 2) : stepS s op = ⟨s.h, s.rs, s.t ++ [1]⟩ := by
  unfold stepS
  rw [if_neg h0, if_neg h1, if_neg h2]
  simp
theorem stepS_t (s : Ps) (op : P2) : ∃ c, (stepS s op).t = s.t ++ [c] := by
  unfold stepS
  split
  · split <;> exact ⟨_, rfl⟩
  · split
    · split
      · exact ⟨_, rfl⟩
      · split <;> exact ⟨_, rfl⟩
    · exact ⟨_, rfl⟩
theorem stepS_len (s : Ps) (op : P2) : (stepS s op).rs.length ≤ s.rs.length + 1 ∧ (stepS s op).t.length = s.t.length + 1 ∧ (stepS s op).h.g.length = s.h.g.length ∧ (stepS s op).h.l.length = s.h.l.length := by
  have a := allocH_len s.h
  have f := freeH_len s.h (s.rs.getD op.b.toNat ⟨0, 0⟩)
  unfold stepS
  split
  · split
    · exact ⟨by simp, by simp, a.1, a.2⟩
    · exact ⟨by simp, by simp, a.1, a.2⟩
  · split
    · split
      · exact ⟨by simp, by simp, f.1, f.2⟩
      · split <;> exact ⟨by simp, by simp, rfl, rfl⟩
    · exact ⟨by simp, by simp, rfl, rfl⟩
def playK (n : Int) (ops : List P2) (k : Nat) : Ps := (ops.take k).foldl stepS ⟨newHp n, [], []⟩
theorem playK_zero (n : Int) (ops : List P2) : playK n ops 0 = ⟨newHp n, [], []⟩ := rfl
theorem playK_succ {n : Int} {ops : List P2} {k : Nat} {op : P2} (h : ops[k]? = some op) : playK n ops (k + 1) = stepS (playK n ops k) op := by
  unfold playK
  rw [List.take_add_one, h, List.foldl_append]
  rfl
theorem playK_len (n : Int) (ops : List P2) : ∀ k, k ≤ ops.length → (playK n ops k).rs.length ≤ k ∧ (playK n ops k).t.length = k ∧ (playK n ops k).h.g.length ≤ 24 ∧ (playK n ops k).h.l.length ≤ 24
  | 0, _ => by have := newHp_len n; rw [playK_zero]; simp; omega
  | k + 1, hk => by
    have ih := playK_len n ops k (by omega)
    have hx : ops[k]? = some (ops[k]'(by omega)) := List.getElem?_eq_getElem _
    rw [playK_succ hx]
    have := stepS_len (playK n ops k) (ops[k]'(by omega))
    omega
def playOk (n : Int) (ops : List P2) : Bool := inB n 1 24 && decide (ops.length ≤ 300)
def playH (n : Int) (ops : List P2) : Hp := if playOk n ops then (playK n ops ops.length).h else ⟨[], []⟩
def playT (n : Int) (ops : List P2) : List Int := if playOk n ops then (playK n ops ops.length).t else []
theorem play_tot (n : Int) (ops : List P2) : totHp (playH n ops) ≤ 48 ∧ (playT n ops).length ≤ 300 := by
  unfold playH playT
  split
  · rename_i h
    simp only [playOk, Bool.and_eq_true, decide_eq_true_eq] at h
    have := playK_len n ops ops.length (Nat.le_refl _)
    unfold totHp
    omega
  · simp [totHp]
/-- returns a heap and a row of integers of its own, apart -/
def RetPl (h : Hp) (L : List Int) (w : World) (e : Ending) (w' : World) : Prop :=
  ∃ gv lv bs v bt, e = .returned (.tuple #[.agg #[gv, lv], v]) ∧ OwnHp w' gv lv h bs ∧ Own w' v 1 L.length (ints L) bt ∧ (∀ b ∈ bs, w.heap.size ≤ b) ∧ (∀ b ∈ bt, w.heap.size ≤ b) ∧ (∀ b ∈ bs, b ∉ bt) ∧ Below w.heap.size w w'
theorem owns_only {w w' : World} {base size n : Nat} {e : TypeId} {v : Value} {xs : List Value} {ks : List Nat} (h : w.ownsRow base e size v n xs) (hb : Only ks w w') (hk : ∀ q, v.ownBlock = some q → q ∉ ks) : w'.ownsRow base e size v n xs := by
  obtain ⟨hl, ⟨rfl, rfl⟩ | ⟨g, cap, cur, rfl, h1, hg, h2⟩⟩ := h
  · exact ⟨hl, .inl ⟨rfl, rfl⟩⟩
  · exact ⟨hl, .inr ⟨g, cap, cur, rfl, h1, (hb.block g (Array.getElem?_eq_some_iff.1 hg).1 (hk g rfl)).trans hg, h2⟩⟩
theorem owns_rd {w : World} {base size n : Nat} {e : TypeId} {v : Value} {xs : List Value} (h : w.ownsRow base e size v n xs) : Rd w v size n xs := by
  obtain ⟨bs, h1, -⟩ := Own.of_owns h
  exact h1.rd
end Go.Proofs.YtpenneklpolhgaaDoor
