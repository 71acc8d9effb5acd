/- What the machine's functions answer, as plain functions over lists. No condition. -/
import Derived.Test.YtgbgjlmkmlhefaaGreatDoorMach
import Derived.Test.YtgbgjlmkmlhefaaGreatDoorS2p
import Derived.Test.YtgbgjlmkmlhefaaGreatDoorB1
namespace Go.Proofs.YtgbgjlmkmlhefaaGreatDoor
set_option maxRecDepth 20000
set_option linter.unusedSimpArgs false
set_option linter.unusedVariables false
def lowA (c : Int) (s : P2) : Bool := decide (s.a < c)
def thOk (c : Int) (t : Th) (code : List Ins) : Bool := inB t.pc 0 code.length && decide (t.v.length = 4) && bufOk t.f && t.v.all valB && t.f.all (lowA c)
def thQ (c : Int) (q : Th × List Ins) : Bool := thOk c q.1 q.2
def machOk (p : Pr) (M : Ma) : Bool := progOkF p && memOk M.mem && decide ((M.mem.length : Int) = p.c) && decide (M.ths.length = p.x.length) && (M.ths.zip p.x).all (thQ p.c)
def endT (t : Th) (code : List Ins) : Bool := decide (t.pc = code.length)
def insAt (t : Th) (code : List Ins) : Ins := code.getD t.pc.toNat ⟨0, 0, 0, 0⟩
def canEx (t : Th) (code : List Ins) : Bool :=
  if endT t code then false else if (insAt t code).o = 3 then decide (t.f.length < 3) else !fenceB (insAt t code) || decide (t.f.length = 0)
def canDr (t : Th) : Bool := decide (0 < t.f.length)
/-- CanMove of a machine that is well, of a thread that exists -/
def canT (d : Bool) (t : Th) (code : List Ins) : Bool := if d then canDr t else canEx t code
def canAt (p : Pr) (M : Ma) (m : Mv) : Bool := canT m.d (M.ths.getD m.t.toNat ⟨0, [], []⟩) (p.x.getD m.t.toNat [])
def canMv (p : Pr) (M : Ma) (m : Mv) : Bool := machOk p M && inB m.t 0 (p.x.length - 1) && canAt p M m
def mvOf (k : Nat) (q : Th × List Ins) : List Mv := (if canEx q.1 q.2 then [⟨k, false⟩] else []) ++ (if canDr q.1 then [⟨k, true⟩] else [])
def mvsAt (p : Pr) (M : Ma) (k : Nat) : List Mv := (List.range k).flatMap fun j => mvOf j (M.ths.getD j ⟨0, [], []⟩, p.x.getD j [])
def mvsF (p : Pr) (M : Ma) : List Mv := if machOk p M then mvsAt p M M.ths.length else []
def endQ (q : Th × List Ins) : Bool := endT q.1 q.2 && !canDr q.1
def endF (p : Pr) (M : Ma) : Bool := machOk p M && (M.ths.zip p.x).all endQ
theorem zip_at {α β : Type} {xs : List α} {ys : List β} {k : Nat} {x : α} {y : β} (hx : xs[k]? = some x) (hy : ys[k]? = some y) : (xs.zip ys)[k]? = some (x, y) := by
  rw [List.getElem?_zip_eq_some]
  exact ⟨hx, hy⟩
theorem machOk_parts {p : Pr} {M : Ma} (h : machOk p M = true) : progOkF p = true ∧ memOk M.mem = true ∧ (M.mem.length : Int) = p.c ∧ M.ths.length = p.x.length ∧ (M.ths.zip p.x).all (thQ p.c) = true := by
  simp only [machOk, Bool.and_eq_true, decide_eq_true_eq] at h
  obtain ⟨⟨⟨⟨h1, h2⟩, h3⟩, h4⟩, h5⟩ := h
  exact ⟨h1, h2, h3, h4, h5⟩
theorem thOk_parts {c : Int} {t : Th} {code : List Ins} (h : thOk c t code = true) : inB t.pc 0 code.length = true ∧ t.v.length = 4 ∧ bufOk t.f = true ∧ t.v.all valB = true ∧ t.f.all (lowA c) = true := by
  simp only [thOk, Bool.and_eq_true, decide_eq_true_eq] at h
  obtain ⟨⟨⟨⟨h1, h2⟩, h3⟩, h4⟩, h5⟩ := h
  exact ⟨h1, h2, h3, h4, h5⟩
theorem machOk_th {p : Pr} {M : Ma} (h : machOk p M = true) {k : Nat} {t : Th} {code : List Ins} (ht : M.ths[k]? = some t) (hc : p.x[k]? = some code) : thOk p.c t code = true := by
  obtain ⟨-, -, -, -, h5⟩ := machOk_parts h
  rw [List.all_eq_true] at h5
  exact h5 (t, code) (List.mem_of_getElem? (zip_at ht hc))
theorem code_at {p : Pr} {M : Ma} (h : M.ths.length = p.x.length) {k : Nat} {t : Th} (ht : M.ths[k]? = some t) : ∃ code, p.x[k]? = some code :=
  ⟨_, List.getElem?_eq_getElem (by have := (List.getElem?_eq_some_iff.1 ht).1; omega)⟩
theorem mvsAt_succ (p : Pr) (M : Ma) (k : Nat) : mvsAt p M (k + 1) = mvsAt p M k ++ mvOf k (M.ths.getD k ⟨0, [], []⟩, p.x.getD k []) := by
  simp [mvsAt, List.range_succ]
theorem mvOf_len (k : Nat) (q : Th × List Ins) : (mvOf k q).length ≤ 2 := by unfold mvOf; split <;> split <;> simp
theorem mvsAt_len (p : Pr) (M : Ma) : ∀ k, (mvsAt p M k).length ≤ 2 * k
  | 0 => by simp [mvsAt]
  | k + 1 => by
    rw [mvsAt_succ, List.length_append]
    have := mvsAt_len p M k
    have := mvOf_len k (M.ths.getD k ⟨0, [], []⟩, p.x.getD k [])
    omega
theorem progOk_len {p : Pr} (h : progOkF p = true) : 1 ≤ p.x.length ∧ p.x.length ≤ 3 ∧ 1 ≤ p.c ∧ p.c ≤ 16 := by
  simp only [progOkF, Bool.and_eq_true] at h
  obtain ⟨⟨h1, h2⟩, -⟩ := h
  have := inB_true h1
  have := inB_true h2
  omega
theorem mvsF_len (p : Pr) (M : Ma) : (mvsF p M).length ≤ 6 := by
  unfold mvsF
  split
  · rename_i h
    obtain ⟨h1, -, -, h4, -⟩ := machOk_parts h
    have := progOk_len h1
    have := mvsAt_len p M M.ths.length
    omega
  · simp
end Go.Proofs.YtgbgjlmkmlhefaaGreatDoor
