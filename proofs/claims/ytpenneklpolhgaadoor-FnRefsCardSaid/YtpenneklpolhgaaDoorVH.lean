/- The pure model of chapter 8: a heap's generations and flags, which are valid, what allocating, freeing and listing answer. And heaps on memory: two rows, read or owned. Plain lemmas, no condition. -/
import Derived.Test.YtpenneklpolhgaaDoorS1
import Derived.Test.YtpenneklpolhgaaDoorTwo
import Derived.Test.YtpenneklpolhgaaDoorMB
namespace Go.Proofs.YtpenneklpolhgaaDoor
set_option maxRecDepth 20000
set_option linter.unusedSimpArgs false
set_option linter.unusedVariables false
open Go.ChangeShapes Go.WideShapes Go.ChangeAt Go.RowKit
set_option linter.unusedVariables false
/-- a heap: generations, flags -/
structure Hp where
  g : List Int
  l : List Bool
deriving DecidableEq
def gOk (x : Int) (b : Bool) : Bool := inB x 0 1000000 && !(b && decide (x = 0))
def hpTo (h : Hp) (k : Nat) : Bool := (List.range k).all fun i => gOk (h.g.getD i 0) (h.l.getD i false)
def hpOk (h : Hp) : Bool := inB h.g.length 1 24 && (decide (h.l.length = h.g.length) && hpTo h h.g.length)
theorem hpTo_succ {h : Hp} {k : Nat} {x : Int} {b : Bool} (hk : hpTo h k = true) (hx : h.g[k]? = some x) (hb : h.l[k]? = some b) (ho : gOk x b = true) : hpTo h (k + 1) = true := by
  unfold hpTo at hk ⊢
  rw [List.range_succ, List.all_append, hk]
  simp [List.getD_eq_getElem?_getD, hx, hb, ho]
theorem hpTo_not {h : Hp} {k n : Nat} {x : Int} {b : Bool} (hn : k < n) (hx : h.g[k]? = some x) (hb : h.l[k]? = some b) (ho : gOk x b = false) : hpTo h n = false := by
  unfold hpTo
  rw [List.all_eq_false]
  exact ⟨k, List.mem_range.2 hn, by simp [List.getD_eq_getElem?_getD, hx, hb, ho]⟩
theorem hpOk_size {h : Hp} (hi : inB h.g.length 1 24 = false) : hpOk h = false := by simp [hpOk, hi]
theorem hpOk_len {h : Hp} (hi : h.l.length ≠ h.g.length) : hpOk h = false := by simp [hpOk, hi]
theorem hpOk_all {h : Hp} (h1 : inB h.g.length 1 24 = true) (h2 : h.l.length = h.g.length) : hpOk h = hpTo h h.g.length := by simp [hpOk, h1, h2]
theorem hpOk_parts {h : Hp} (ho : hpOk h = true) : (1 ≤ h.g.length ∧ h.g.length ≤ 24) ∧ h.l.length = h.g.length ∧ hpTo h h.g.length = true := by
  simp only [hpOk, Bool.and_eq_true, decide_eq_true_eq] at ho
  have := inB_true ho.1
  exact ⟨by omega, ho.2.1, ho.2.2⟩
theorem hpTo_at {h : Hp} {n k : Nat} {x : Int} {b : Bool} (hk : hpTo h n = true) (hn : k < n) (hx : h.g[k]? = some x) (hb : h.l[k]? = some b) : gOk x b = true := by
  unfold hpTo at hk
  rw [List.all_eq_true] at hk
  have := hk k (List.mem_range.2 hn)
  simpa [List.getD_eq_getElem?_getD, hx, hb] using this
theorem gOk_bounds {x : Int} {b : Bool} (h : gOk x b = true) : 0 ≤ x ∧ x ≤ 1000000 := by
  simp only [gOk, Bool.and_eq_true] at h
  exact inB_true h.1
theorem gOk_live {x : Int} (h : gOk x true = true) : 1 ≤ x := by
  have := gOk_bounds h
  simp [gOk] at h
  omega
/-- the first flag that is not set; their number if all are -/
def fre : List Bool → Nat
  | [] => 0
  | b :: l => if b then fre l + 1 else 0
theorem fre_le : ∀ l : List Bool, fre l ≤ l.length
  | [] => Nat.le_refl _
  | b :: l => by
    have := fre_le l
    unfold fre
    split <;> simp <;> omega
theorem fre_at : ∀ {l : List Bool} {k : Nat}, (∀ j, j < k → l[j]? = some true) → l[k]? = some false → fre l = k
  | [], k, _, h => by simp at h
  | b :: l, 0, _, h => by
    simp at h
    subst h
    rfl
  | b :: l, k + 1, ha, h => by
    have h0 := ha 0 (by omega)
    simp at h0
    subst h0
    have := fre_at (l := l) (k := k) (fun j hj => by simpa using ha (j + 1) (by omega)) (by simpa using h)
    simp [fre, this]
theorem fre_all : ∀ {l : List Bool}, (∀ j, j < l.length → l[j]? = some true) → fre l = l.length
  | [], _ => rfl
  | b :: l, ha => by
    have h0 := ha 0 (by simp)
    simp at h0
    subst h0
    have := fre_all (l := l) (fun j hj => by simpa using ha (j + 1) (by simpa using hj))
    simp [fre, this]
theorem fre_get : ∀ {l : List Bool}, fre l < l.length → l[fre l]? = some false
  | [], h => by simp at h
  | b :: l, h => by
    unfold fre at h ⊢
    cases b
    · simp
    · simp only [if_true, List.length_cons, Nat.add_lt_add_iff_right] at h ⊢
      simpa using fre_get h
theorem fre_before : ∀ {l : List Bool} {j : Nat}, j < fre l → l[j]? = some true
  | [], j, h => by simp [fre] at h
  | b :: l, j, h => by
    unfold fre at h
    cases b
    · simp at h
    · simp only [if_true] at h
      cases j with
      | zero => rfl
      | succ j => simpa using fre_before (l := l) (j := j) (by omega)
def allocOk (h : Hp) : Bool := hpOk h && (decide (fre h.l < h.l.length) && !decide (h.g.getD (fre h.l) 0 = 1000000))
def allocH (h : Hp) : Hp := if allocOk h then ⟨h.g.set (fre h.l) (h.g.getD (fre h.l) 0 + 1), h.l.set (fre h.l) true⟩ else h
def allocR (h : Hp) : P2 := if allocOk h then ⟨fre h.l, h.g.getD (fre h.l) 0 + 1⟩ else ⟨0, 0⟩
theorem allocH_no {h : Hp} (ho : allocOk h = false) : allocH h = h ∧ allocR h = ⟨0, 0⟩ := by simp [allocH, allocR, ho]
theorem allocH_len (h : Hp) : (allocH h).g.length = h.g.length ∧ (allocH h).l.length = h.l.length := by
  unfold allocH
  split <;> simp
theorem alloc_at {h : Hp} {k : Nat} {x : Int} (ho : hpOk h = true) (hk : fre h.l = k) (hl : k < h.l.length) (hx : h.g[k]? = some x) (hm : x ≠ 1000000) :
    allocOk h = true ∧ allocH h = ⟨h.g.set k (x + 1), h.l.set k true⟩ ∧ allocR h = ⟨k, x + 1⟩ := by
  have e : h.g.getD k 0 = x := by simp [List.getD_eq_getElem?_getD, hx]
  have ok : allocOk h = true := by
    unfold allocOk
    rw [ho, hk, e]
    simp [hl, hm]
  refine ⟨ok, ?_, ?_⟩
  · unfold allocH
    rw [if_pos ok, hk, e]
  · unfold allocR
    rw [if_pos ok, hk, e]
theorem alloc_full {h : Hp} (hk : fre h.l = h.l.length) : allocOk h = false := by simp [allocOk, hk]
theorem alloc_last {h : Hp} (hx : h.g[fre h.l]? = some 1000000) : allocOk h = false := by simp [allocOk, List.getD_eq_getElem?_getD, hx]
theorem alloc_bad {h : Hp} (ho : hpOk h = false) : allocOk h = false := by simp [allocOk, ho]
def inH (h : Hp) (a : Int) : Bool := hpOk h && inB a 0 ((h.g.length : Int) - 1)
def goodB (h : Hp) (r : P2) : Bool := inH h r.a && (h.l.getD r.a.toNat false && decide (h.g.getD r.a.toNat 0 = r.b))
def freeC (h : Hp) (r : P2) : Int := if inH h r.a then (if goodB h r then 0 else 2) else 1
def freeH (h : Hp) (r : P2) : Hp := if goodB h r then ⟨h.g, h.l.set r.a.toNat false⟩ else h
theorem freeH_len (h : Hp) (r : P2) : (freeH h r).g.length = h.g.length ∧ (freeH h r).l.length = h.l.length := by
  unfold freeH
  split <;> simp
def liveTo (h : Hp) (k : Nat) : List P2 := ((List.range k).filter fun i => h.l.getD i false).map fun i : Nat => ⟨(i : Int), h.g.getD i 0⟩
def liveF (h : Hp) : List P2 := if hpOk h then liveTo h h.l.length else []
theorem liveTo_yes {h : Hp} {k : Nat} {x : Int} (hx : h.g[k]? = some x) (hb : h.l[k]? = some true) : liveTo h (k + 1) = liveTo h k ++ [⟨(k : Int), x⟩] := by
  simp [liveTo, List.range_succ, List.getD_eq_getElem?_getD, hb, hx]
theorem liveTo_no {h : Hp} {k : Nat} (hb : h.l[k]? = some false) : liveTo h (k + 1) = liveTo h k := by
  simp [liveTo, List.range_succ, List.getD_eq_getElem?_getD, hb]
theorem liveTo_len (h : Hp) (k : Nat) : (liveTo h k).length ≤ k := by
  unfold liveTo
  rw [List.length_map]
  exact Nat.le_trans (List.length_filter_le _ _) (by simp)
theorem liveF_len (h : Hp) : (liveF h).length ≤ 24 := by
  unfold liveF
  split
  · rename_i ho
    have := hpOk_parts ho
    have := liveTo_len h h.l.length
    omega
  · simp
def reu (x : Int) : Int := if x = 0 then 0 else x - 1
def reTo (h : Hp) (k : Nat) : Int := ((List.range k).map fun i => reu (h.g.getD i 0)).foldl (· + ·) 0
def reF (h : Hp) : Int := if hpOk h then reTo h h.g.length else -1
theorem reTo_succ {h : Hp} {k : Nat} {x : Int} (hx : h.g[k]? = some x) : reTo h (k + 1) = reTo h k + reu x := by
  simp [reTo, List.range_succ, List.getD_eq_getElem?_getD, hx]
theorem reTo_bounds {h : Hp} {k : Nat} (hk : hpTo h k = true) (hg : k ≤ h.g.length) (hl : k ≤ h.l.length) : 0 ≤ reTo h k ∧ reTo h k ≤ 1000000 * k := by
  induction k with
  | zero => simp [reTo]
  | succ k ih =>
    have hx : h.g[k]? = some h.g[k] := List.getElem?_eq_getElem (by omega)
    have hb : h.l[k]? = some h.l[k] := List.getElem?_eq_getElem (by omega)
    have hk' : hpTo h k = true := by
      unfold hpTo at hk ⊢
      rw [List.range_succ, List.all_append, Bool.and_eq_true] at hk
      exact hk.1
    have ho := gOk_bounds (hpTo_at hk (Nat.lt_succ_self k) hx hb)
    have := ih hk' (by omega) (by omega)
    rw [reTo_succ hx]
    unfold reu
    split <;> omega
def newHp (n : Int) : Hp := if inB n 1 24 then ⟨List.replicate n.toNat 0, List.replicate n.toNat false⟩ else ⟨[], []⟩
theorem newHp_len (n : Int) : (newHp n).g.length ≤ 24 ∧ (newHp n).l.length = (newHp n).g.length := by
  unfold newHp
  split
  · rename_i h
    have := inB_true h
    simp
    omega
  · simp
/-- a heap's rows can be read -/
structure RdHp (w : World) (gv lv : Value) (h : Hp) : Prop where
  g : Rd w gv 1 h.g.length (ints h.g)
  l : Rd w lv 1 h.l.length (bools h.l)
structure RdAHp (w : World) (gv lv : Value) (h : Hp) : Prop where
  g : RdA w gv 1 h.g.length (ints h.g)
  l : RdA w lv 1 h.l.length (bools h.l)
/-- a heap's rows are the call's own, in blocks apart -/
def OwnHp (w : World) (gv lv : Value) (h : Hp) (bs : List Nat) : Prop :=
  ∃ bg bl, Own w gv 1 h.g.length (ints h.g) bg ∧ Own w lv 1 h.l.length (bools h.l) bl ∧ (∀ b ∈ bg, b ∉ bl) ∧ bs = bg ++ bl
section
variable {w w' : World} {gv lv : Value} {h : Hp} {bs ks : List Nat}
theorem RdHp.below (r : RdHp w gv lv h) (hb : Below w.heap.size w w') : RdHp w' gv lv h := ⟨r.g.below hb, r.l.below hb⟩
theorem RdAHp.below (r : RdAHp w gv lv h) (hb : Below w.heap.size w w') : RdAHp w' gv lv h := ⟨r.g.below hb, r.l.below hb⟩
theorem RdHp.of_below {B : Nat} (r : RdHp w gv lv h) (hb : Below B w w') (hB : w.heap.size ≤ B) : RdHp w' gv lv h := ⟨r.g.of_below hb hB, r.l.of_below hb hB⟩
theorem OwnHp.rd (r : OwnHp w gv lv h bs) : RdHp w gv lv h := by
  obtain ⟨bg, bl, h1, h2, -⟩ := r
  exact ⟨h1.rd, h2.rd⟩
theorem OwnHp.lt (r : OwnHp w gv lv h bs) : ∀ b ∈ bs, b < w.heap.size := by
  obtain ⟨bg, bl, h1, h2, h3, rfl⟩ := r
  intro b hb
  rcases List.mem_append.1 hb with hb | hb
  · exact h1.lt b hb
  · exact h2.lt b hb
theorem OwnHp.of_blocks (r : OwnHp w gv lv h bs) (hs : w.heap.size ≤ w'.heap.size) (hk : ∀ b ∈ bs, w'.heap[b]? = w.heap[b]?) : OwnHp w' gv lv h bs := by
  obtain ⟨bg, bl, h1, h2, h3, rfl⟩ := r
  exact ⟨bg, bl, h1.of_blocks hs fun b hb => hk b (List.mem_append.2 (.inl hb)), h2.of_blocks hs fun b hb => hk b (List.mem_append.2 (.inr hb)), h3, rfl⟩
theorem OwnHp.slices (r : OwnHp w gv lv h bs) : ∃ A c B d, gv = .slice A h.g.length c ∧ lv = .slice B h.l.length d := by
  obtain ⟨bg, bl, h1, h2, h3, rfl⟩ := r
  obtain ⟨A, c, rfl, -, -⟩ := h1.slice
  obtain ⟨B, d, rfl, -, -⟩ := h2.slice
  exact ⟨A, c, B, d, rfl, rfl⟩
theorem RdHp.slices (r : RdHp w gv lv h) : ∃ A c B d, gv = .slice A h.g.length c ∧ lv = .slice B h.l.length d ∧ h.g.length ≤ c ∧ h.l.length ≤ d ∧ c ≤ 9223372036854775807 ∧ d ≤ 9223372036854775807 := by
  obtain ⟨⟨A, c, rfl, -, h1, h2, -⟩, ⟨B, d, rfl, -, h3, h4, -⟩⟩ := r
  unfold maxLen at h2 h4
  exact ⟨A, c, B, d, rfl, rfl, h1, h3, by omega, by omega⟩
theorem RdAHp.slices (r : RdAHp w gv lv h) : ∃ A c B d, gv = .slice A h.g.length c ∧ lv = .slice B h.l.length d := by
  obtain ⟨⟨A, c, rfl, -, -, -, -⟩, ⟨B, d, rfl, -, -, -, -⟩⟩ := r
  exact ⟨A, c, B, d, rfl, rfl⟩
theorem OwnHp.below (r : OwnHp w gv lv h bs) (hb : Below w.heap.size w w') : OwnHp w' gv lv h bs := r.of_blocks hb.size fun b hm => hb.block b (r.lt b hm)
theorem OwnHp.only (r : OwnHp w gv lv h bs) (hb : Only ks w w') (hd : ∀ b ∈ bs, b ∉ ks) : OwnHp w' gv lv h bs := r.of_blocks hb.size fun b hm => hb.block b (r.lt b hm) (hd b hm)
theorem OwnHp.far {b k : Nat} {u : Value} (r : OwnHp w gv lv h bs) (hb : ∀ x ∈ bs, x ≠ b) : OwnHp (w.setCell ⟨b, k, none⟩ u) gv lv h bs :=
  r.only (Only.setCell w u) fun x hx hm => hb x hx (by simpa using hm)
theorem OwnHp.mk {bg bl : List Nat} (h1 : Own w gv 1 h.g.length (ints h.g) bg) (h2 : Own w lv 1 h.l.length (bools h.l) bl) (h3 : ∀ b ∈ bg, b ∉ bl) : OwnHp w gv lv h (bg ++ bl) := ⟨bg, bl, h1, h2, h3, rfl⟩
end
/-- the rows of a heap with at least one object: where they lie -/
theorem RdHp.open_ {w : World} {gv lv : Value} {h : Hp} (r : RdHp w gv lv h) (hg : 0 < h.g.length) (hl : 0 < h.l.length) : ∃ b o c b' o' d, gv = .slice (some ⟨b, o, none⟩) h.g.length c ∧ lv = .slice (some ⟨b', o', none⟩) h.l.length d ∧
    (h.g.length ≤ c ∧ h.l.length ≤ d ∧ c ≤ 9223372036854775807 ∧ d ≤ 9223372036854775807) ∧ (b < w.heap.size ∧ b' < w.heap.size) ∧
    (∀ j u, (ints h.g)[j]? = some u → w.cell? ⟨b, o + j, none⟩ = some u) ∧ (∀ j u, (bools h.l)[j]? = some u → w.cell? ⟨b', o' + j, none⟩ = some u) := by
  obtain ⟨⟨A, c, rfl, -, h1, h2, h3⟩, ⟨B, d, rfl, -, h4, h5, h6⟩⟩ := r
  obtain ⟨b, o, rfl, hb, hc⟩ := h3 hg
  obtain ⟨b', o', rfl, hb', hc'⟩ := h6 hl
  unfold maxLen at h2 h5
  exact ⟨b, o, c, b', o', d, rfl, rfl, ⟨h1, h4, by omega, by omega⟩, ⟨hb, hb'⟩, hc, hc'⟩
/-- returns a heap of its own -/
def RetHp (h : Hp) (w : World) (e : Ending) (w' : World) : Prop :=
  ∃ gv lv bs, e = .returned (.agg #[gv, lv]) ∧ OwnHp w' gv lv h bs ∧ (∀ b ∈ bs, w.heap.size ≤ b) ∧ Below w.heap.size w w'
def RetHpB (h : Hp) (ok : Bool) (w : World) (e : Ending) (w' : World) : Prop :=
  ∃ gv lv bs, e = .returned (.tuple #[.agg #[gv, lv], .bool ok]) ∧ OwnHp w' gv lv h bs ∧ (∀ b ∈ bs, w.heap.size ≤ b) ∧ Below w.heap.size w w'
def totHp (h : Hp) : Nat := h.g.length + h.l.length
def mkHp (h : Hp) (m : Int) : Hp := ⟨marked h.g.length m, bmarked h.l.length (m + h.g.length)⟩
end Go.Proofs.YtpenneklpolhgaaDoor
