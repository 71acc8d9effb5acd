/- The pure model of chapter 9: a bench, when it is valid, what its operations answer. And benches on memory: four rows, read or owned. Plain lemmas, no condition. -/
import Derived.Test.YtkpgjeeofghldaaN0
namespace Go.Proofs.Ytkpgjeeofghldaa
set_option maxRecDepth 20000
set_option linter.unusedSimpArgs false
set_option linter.unusedVariables false
open Go.ChangeShapes Go.WideShapes Go.ChangeAt Go.RowKit
set_option linter.unusedVariables false
/-- a bench: linked, held (worker, object), waiting, freed, next -/
structure Bn where
  l : List Int
  h : List P2
  w : List Int
  f : List Int
  n : Int
deriving DecidableEq
def allBn (B : Bn) : List Int := B.l ++ (B.w ++ B.f)
def BnOk (B : Bn) : Prop :=
  (1 ≤ B.n ∧ B.n ≤ 61) ∧ (((allBn B).length : Int) = B.n - 1 ∧ (allBn B).Nodup ∧ ∀ x ∈ allBn B, 1 ≤ x ∧ x < B.n) ∧ B.l.Pairwise (· < ·) ∧
    ((∀ e ∈ B.h, (0 ≤ e.a ∧ e.a ≤ 4) ∧ (1 ≤ e.b ∧ e.b < B.n)) ∧ B.h.Nodup)
instance (B : Bn) : Decidable (BnOk B) := by unfold BnOk; infer_instance
def bnOk (B : Bn) : Bool := decide (BnOk B)
theorem bnOk_iff {B : Bn} : bnOk B = true ↔ BnOk B := by simp [bnOk]
theorem bnOk_no {B : Bn} (h : ¬ BnOk B) : bnOk B = false := by simpa [bnOk] using h
/-! lists without repetition -/
theorem nodup_sub_len {α : Type} [DecidableEq α] : ∀ {A B : List α}, A.Nodup → (∀ x ∈ A, x ∈ B) → A.length ≤ B.length
  | [], B, _, _ => Nat.zero_le _
  | a :: A, B, hn, hs => by
    obtain ⟨h1, h2⟩ := List.nodup_cons.1 hn
    have ha := hs a (by simp)
    have := nodup_sub_len (A := A) (B := B.erase a) h2 (fun x hx => (List.mem_erase_of_ne (fun e : x = a => h1 (by rw [← e]; exact hx))).2 (hs x (by simp [hx])))
    rw [List.length_erase_of_mem ha] at this
    have := List.length_pos_of_mem ha
    simp only [List.length_cons]
    omega
theorem nodup_sub_all {α : Type} [DecidableEq α] {A B : List α} (hn : A.Nodup) (hs : ∀ x ∈ A, x ∈ B) (hl : B.length ≤ A.length) {y : α} (hy : y ∈ B) : y ∈ A := by
  by_cases h : y ∈ A
  · exact h
  · have := nodup_sub_len (A := y :: A) (B := B) (List.nodup_cons.2 ⟨h, hn⟩) (fun x hx => by
      rcases List.mem_cons.1 hx with rfl | hx
      · exact hy
      · exact hs x hx)
    simp only [List.length_cons] at this
    omega
theorem nodup_of_sub {α : Type} [DecidableEq α] : ∀ {B A : List α}, A.Nodup → (∀ x ∈ A, x ∈ B) → B.length ≤ A.length → B.Nodup
  | [], _, _, _, _ => List.nodup_nil
  | b :: B, A, hn, hs, hl => by
    have hb : b ∉ B := fun hm => by
      have := nodup_sub_len (A := A) (B := B) hn (fun x hx => by
        rcases List.mem_cons.1 (hs x hx) with rfl | h
        · exact hm
        · exact h)
      simp only [List.length_cons] at hl
      omega
    refine List.nodup_cons.2 ⟨hb, nodup_of_sub (A := A.erase b) (hn.erase b) (fun x hx => ?_) ?_⟩
    · have hx' := (List.Nodup.mem_erase_iff hn).1 hx
      rcases List.mem_cons.1 (hs x hx'.2) with e | h
      · exact absurd e hx'.1
      · exact h
    · rw [List.length_erase]
      simp only [List.length_cons] at hl
      split <;> omega
/-- the numbers from 1 on below n -/
def upto (n : Int) : List Int := (List.range (n - 1).toNat).map fun i : Nat => (i : Int) + 1
theorem upto_nodup (n : Int) : (upto n).Nodup := by
  unfold upto
  rw [List.nodup_iff_pairwise_ne, List.pairwise_map]
  refine List.Pairwise.imp ?_ List.nodup_range
  intro a b h e
  omega
theorem upto_len (n : Int) : (upto n).length = (n - 1).toNat := by simp [upto]
theorem upto_mem {n x : Int} : x ∈ upto n ↔ 1 ≤ x ∧ x < n := by
  unfold upto
  simp only [List.mem_map, List.mem_range]
  constructor
  · rintro ⟨i, hi, rfl⟩
    omega
  · intro h
    exact ⟨(x - 1).toNat, by omega, by omega⟩
/-- in how many of the three rows -/
def cnt3 (B : Bn) (x : Int) : Int := (if B.l.any (· == x) then 1 else 0) + (if B.w.any (· == x) then 1 else 0) + (if B.f.any (· == x) then 1 else 0)
theorem any_mem {l : List Int} {x : Int} : l.any (· == x) = true ↔ x ∈ l := by
  rw [List.any_eq_true]
  constructor
  · rintro ⟨y, hy, e⟩
    rw [← (by simpa using e : y = x)]
    exact hy
  · intro h
    exact ⟨x, h, by simp⟩
theorem cnt3_one {B : Bn} (hn : (allBn B).Nodup) {x : Int} (hx : x ∈ allBn B) : cnt3 B x = 1 := by
  unfold allBn at hn hx
  rw [List.nodup_append] at hn
  obtain ⟨h1, h2, h3⟩ := hn
  rw [List.nodup_append] at h2
  obtain ⟨h4, h5, h6⟩ := h2
  unfold cnt3
  simp only [any_mem]
  rcases List.mem_append.1 hx with hx | hx
  · have a1 : x ∉ B.w := fun h => h3 x hx x (List.mem_append.2 (.inl h)) rfl
    have a2 : x ∉ B.f := fun h => h3 x hx x (List.mem_append.2 (.inr h)) rfl
    simp [hx, a1, a2]
  · have a0 : x ∉ B.l := fun h => h3 x h x hx rfl
    rcases List.mem_append.1 hx with hx | hx
    · have a2 : x ∉ B.f := fun h => h6 x hx x h rfl
      simp [hx, a0, a2]
    · have a1 : x ∉ B.w := fun h => h6 x h x hx rfl
      simp [hx, a0, a1]
theorem cnt3_mem {B : Bn} {x : Int} (h : cnt3 B x = 1) : x ∈ allBn B := by
  unfold cnt3 at h
  simp only [any_mem] at h
  unfold allBn
  rw [List.mem_append, List.mem_append]
  by_cases h1 : x ∈ B.l
  · exact .inl h1
  · by_cases h2 : x ∈ B.w
    · exact .inr (.inl h2)
    · by_cases h3 : x ∈ B.f
      · exact .inr (.inr h3)
      · simp [h1, h2, h3] at h
theorem adj_pairwise {l : List Int} (h : ∀ i x y, l[i]? = some x → l[i + 1]? = some y → x < y) : l.Pairwise (· < ·) := by
  induction l with
  | nil => exact List.Pairwise.nil
  | cons a l ih =>
    have h1 := ih fun i x y hx hy => h (i + 1) x y (by simpa using hx) (by simpa using hy)
    refine List.pairwise_cons.2 ⟨fun b hb => ?_, h1⟩
    cases l with
    | nil => simp at hb
    | cons c l =>
      have hac := h 0 a c (by simp) (by simp)
      rcases List.mem_cons.1 hb with rfl | hb
      · exact hac
      · exact Int.lt_trans hac ((List.pairwise_cons.1 h1).1 b hb)
theorem pairwise_adj {l : List Int} (h : l.Pairwise (· < ·)) {i : Nat} {x y : Int} (hx : l[i]? = some x) (hy : l[i + 1]? = some y) : x < y := by
  obtain ⟨h1, rfl⟩ := List.getElem?_eq_some_iff.1 hx
  obtain ⟨h2, rfl⟩ := List.getElem?_eq_some_iff.1 hy
  exact (List.pairwise_iff_getElem.1 h) i (i + 1) h1 h2 (by omega)
theorem holds_len {h : List P2} {n : Int} (hn : n ≤ 61) (hr : ∀ e ∈ h, (0 ≤ e.a ∧ e.a ≤ 4) ∧ (1 ≤ e.b ∧ e.b < n)) (hd : h.Nodup) : h.length ≤ 300 := by
  have hm : (h.map fun e => e.a * 60 + (e.b - 1)).Nodup := by
    rw [List.nodup_iff_pairwise_ne, List.pairwise_map]
    have hd' : h.Pairwise fun a b => a ∈ h ∧ b ∈ h ∧ a ≠ b := List.Pairwise.imp_of_mem (fun ha hb he => ⟨ha, hb, he⟩) (List.nodup_iff_pairwise_ne.1 hd)
    refine hd'.imp ?_
    rintro ⟨a, b⟩ ⟨c, d⟩ ⟨h1, h2, h3⟩ e
    have := hr _ h1
    have := hr _ h2
    simp only at *
    have e1 : a = c := by omega
    have e2 : b = d := by omega
    exact h3 (by rw [e1, e2])
  have := nodup_sub_len (A := h.map fun e => e.a * 60 + (e.b - 1)) (B := (List.range 300).map fun i : Nat => (i : Int)) hm (fun x hx => by
    obtain ⟨e, he, rfl⟩ := List.mem_map.1 hx
    have := hr e he
    exact List.mem_map.2 ⟨(e.a * 60 + (e.b - 1)).toNat, List.mem_range.2 (by omega), by omega⟩)
  simpa using this
/-- the model's road to validity -/
theorem bnOk_of {B : Bn} (h1 : 1 ≤ B.n ∧ B.n ≤ 61) (h2 : ((B.l.length : Int) + B.w.length) + B.f.length = B.n - 1) (h3 : ∀ i x y, B.l[i]? = some x → B.l[i + 1]? = some y → x < y)
    (h4 : ∀ x, 1 ≤ x → x < B.n → cnt3 B x = 1) (h5 : ∀ e ∈ B.h, (0 ≤ e.a ∧ e.a ≤ 4) ∧ (1 ≤ e.b ∧ e.b < B.n)) (h6 : B.h.Nodup) : BnOk B := by
  have hl : ((allBn B).length : Int) = B.n - 1 := by unfold allBn; simp only [List.length_append]; omega
  have hs : ∀ x ∈ upto B.n, x ∈ allBn B := fun x hx => by
    have := upto_mem.1 hx
    exact cnt3_mem (h4 x this.1 this.2)
  have hle : (allBn B).length ≤ (upto B.n).length := by rw [upto_len]; omega
  exact ⟨h1, ⟨hl, nodup_of_sub (upto_nodup _) hs hle, fun x hx => upto_mem.1 (nodup_sub_all (upto_nodup _) hs hle hx)⟩, adj_pairwise h3, h5, h6⟩
theorem bnOk_cnt {B : Bn} (h : BnOk B) {x : Int} (h1 : 1 ≤ x) (h2 : x < B.n) : cnt3 B x = 1 := by
  obtain ⟨-, ⟨a1, a2, a3⟩, -⟩ := h
  exact cnt3_one a2 (nodup_sub_all a2 (fun y hy => upto_mem.2 (a3 y hy)) (by rw [upto_len]; omega) (upto_mem.2 ⟨h1, h2⟩))
theorem bnOk_held {B : Bn} (h : BnOk B) : B.h.length ≤ 300 := holds_len h.1.2 h.2.2.2.1 h.2.2.2.2
theorem bnOk_lens {B : Bn} (h : BnOk B) : ((B.l.length : Int) + B.w.length) + B.f.length = B.n - 1 := by
  have := h.2.1.1
  unfold allBn at this
  simp only [List.length_append] at this
  omega
theorem bnOk_small {B : Bn} (h : BnOk B) : B.l.length ≤ 60 ∧ B.w.length ≤ 60 ∧ B.f.length ≤ 60 := by
  have := bnOk_lens h
  have := h.1
  omega
/-- the program's road to validity -/
theorem bnOk_by {B : Bn} (h1 : 1 ≤ B.n ∧ B.n ≤ 61) (h2 : ((allBn B).length : Int) = B.n - 1) (h3 : (allBn B).Nodup) (h3' : ∀ x ∈ allBn B, 1 ≤ x ∧ x < B.n) (h4 : B.l.Pairwise (· ≤ ·))
    (h5 : ∀ e ∈ B.h, (0 ≤ e.a ∧ e.a ≤ 4) ∧ (1 ≤ e.b ∧ e.b < B.n)) (h6 : B.h.Nodup) : BnOk B := by
  refine ⟨h1, ⟨h2, h3, h3'⟩, ?_, h5, h6⟩
  have hn : B.l.Nodup := by
    unfold allBn at h3
    exact (List.nodup_append.1 h3).1
  have := h4.and (List.nodup_iff_pairwise_ne.1 hn)
  exact this.imp fun ⟨a, b⟩ => by omega
/-! the operations -/
def safeB (B : Bn) : Bool := bnOk B && B.h.all fun e => !(B.f.any (· == e.b))
def byF (B : Bn) (t : Int) : List Int := (B.h.filter fun e => e.a == t).map (·.b)
def ofF (B : Bn) (x : Int) : List Int := (B.h.filter fun e => e.b == x).map (·.a)
def heldF (B : Bn) (t : Int) : List Int := if bnOk B then byF B t else []
def holdersF (B : Bn) (x : Int) : List Int := if bnOk B then ofF B x else []
theorem byF_len (B : Bn) (t : Int) : (byF B t).length ≤ B.h.length := by
  unfold byF
  rw [List.length_map]
  exact List.length_filter_le _ _
theorem ofF_len (B : Bn) (t : Int) : (ofF B t).length ≤ B.h.length := by
  unfold ofF
  rw [List.length_map]
  exact List.length_filter_le _ _
theorem heldF_len (B : Bn) (t : Int) : (heldF B t).length ≤ 300 := by
  unfold heldF
  split
  · rename_i h
    have := byF_len B t
    have := bnOk_held (bnOk_iff.1 h)
    omega
  · simp
theorem holdersF_len (B : Bn) (t : Int) : (holdersF B t).length ≤ 300 := by
  unfold holdersF
  split
  · rename_i h
    have := ofF_len B t
    have := bnOk_held (bnOk_iff.1 h)
    omega
  · simp
theorem heldF_mem {B : Bn} (ho : bnOk B = true) (t x : Int) : (heldF B t).any (· == x) = decide ((⟨t, x⟩ : P2) ∈ B.h) := by
  rw [Bool.eq_iff_iff, any_mem]
  simp only [heldF, ho, if_true, byF, List.mem_map, List.mem_filter, decide_eq_true_eq]
  constructor
  · rintro ⟨⟨a, b⟩, ⟨h1, h2⟩, h3⟩
    simp at h2 h3
    subst h2 h3
    exact h1
  · intro h
    exact ⟨_, ⟨h, by simp⟩, rfl⟩
def makeOk (B : Bn) : Bool := bnOk B && decide (B.n ≤ 60)
def makeBn (B : Bn) : Bn := if makeOk B then { B with l := B.l ++ [B.n], n := B.n + 1 } else B
def makeR (B : Bn) : Int := if makeOk B then B.n else -1
def takeOk (B : Bn) (t x : Int) : Bool := bnOk B && (inB t 0 4 && (B.l.any (· == x) && !decide ((⟨t, x⟩ : P2) ∈ B.h)))
def takeBn (B : Bn) (t x : Int) : Bn := if takeOk B t x then { B with h := B.h ++ [⟨t, x⟩] } else B
def dropOk (B : Bn) (t x : Int) : Bool := bnOk B && decide ((⟨t, x⟩ : P2) ∈ B.h)
def dropBn (B : Bn) (t x : Int) : Bn := if dropOk B t x then { B with h := B.h.filter fun e => !decide (e = ⟨t, x⟩) } else B
def cutOk (B : Bn) (x : Int) : Bool := bnOk B && B.l.any (· == x)
def lessF (l : List Int) (x : Int) : List Int := l.filter fun y => !(y == x)
def cutBn (B : Bn) (x : Int) : Bn := if cutOk B x then { B with l := lessF B.l x, w := B.w ++ [x] } else B
def totBn (B : Bn) : Nat := B.l.length + B.h.length * 2 + B.w.length + B.f.length
theorem lessF_len (l : List Int) (x : Int) : (lessF l x).length ≤ l.length := List.length_filter_le _ _
/-! memory -/
/-- a bench's rows can be read -/
structure RdBn (w : World) (a b c d : Value) (B : Bn) : Prop where
  l : Rd w a 1 B.l.length (ints B.l)
  h : Rd w b 2 B.h.length (flc2 B.h)
  q : Rd w c 1 B.w.length (ints B.w)
  f : Rd w d 1 B.f.length (ints B.f)
structure RdABn (w : World) (a b c d : Value) (B : Bn) : Prop where
  l : RdA w a 1 B.l.length (ints B.l)
  h : RdA w b 2 B.h.length (flc2 B.h)
  q : RdA w c 1 B.w.length (ints B.w)
  f : RdA w d 1 B.f.length (ints B.f)
/-- a bench's rows are the call's own, in blocks apart -/
def OwnBn (w : World) (a b c d : Value) (B : Bn) (bs : List Nat) : Prop :=
  ∃ b1 b2 b3 b4, (Own w a 1 B.l.length (ints B.l) b1 ∧ Own w b 2 B.h.length (flc2 B.h) b2 ∧ Own w c 1 B.w.length (ints B.w) b3 ∧ Own w d 1 B.f.length (ints B.f) b4) ∧
    ((∀ x ∈ b1, x ∉ b2 ∧ x ∉ b3 ∧ x ∉ b4) ∧ (∀ x ∈ b2, x ∉ b3 ∧ x ∉ b4) ∧ ∀ x ∈ b3, x ∉ b4) ∧ bs = b1 ++ (b2 ++ (b3 ++ b4))
section
variable {w w' : World} {a b c d : Value} {B : Bn} {bs ks : List Nat}
theorem RdBn.below (r : RdBn w a b c d B) (hb : Below w.heap.size w w') : RdBn w' a b c d B := ⟨r.l.below hb, r.h.below hb, r.q.below hb, r.f.below hb⟩
theorem RdABn.below (r : RdABn w a b c d B) (hb : Below w.heap.size w w') : RdABn w' a b c d B := ⟨r.l.below hb, r.h.below hb, r.q.below hb, r.f.below hb⟩
theorem RdBn.of_below {k : Nat} (r : RdBn w a b c d B) (hb : Below k w w') (hB : w.heap.size ≤ k) : RdBn w' a b c d B := ⟨r.l.of_below hb hB, r.h.of_below hb hB, r.q.of_below hb hB, r.f.of_below hb hB⟩
theorem RdBn.slices (r : RdBn w a b c d B) : ∃ A1 c1 A2 c2 A3 c3 A4 c4, (a = .slice A1 B.l.length c1 ∧ b = .slice A2 B.h.length c2 ∧ c = .slice A3 B.w.length c3 ∧ d = .slice A4 B.f.length c4) ∧
    (B.l.length ≤ c1 ∧ B.h.length ≤ c2 ∧ B.w.length ≤ c3 ∧ B.f.length ≤ c4) ∧ (c1 ≤ 9223372036854775807 ∧ c2 ≤ 9223372036854775807 ∧ c3 ≤ 9223372036854775807 ∧ c4 ≤ 9223372036854775807) := by
  obtain ⟨⟨A1, c1, rfl, -, g1, k1, -⟩, ⟨A2, c2, rfl, -, g2, k2, -⟩, ⟨A3, c3, rfl, -, g3, k3, -⟩, ⟨A4, c4, rfl, -, g4, k4, -⟩⟩ := r
  unfold maxLen at k1 k2 k3 k4
  exact ⟨A1, c1, A2, c2, A3, c3, A4, c4, ⟨rfl, rfl, rfl, rfl⟩, ⟨g1, g2, g3, g4⟩, ⟨by omega, by omega, by omega, by omega⟩⟩
theorem RdABn.slices (r : RdABn w a b c d B) : ∃ A1 c1 A2 c2 A3 c3 A4 c4, a = .slice A1 B.l.length c1 ∧ b = .slice A2 B.h.length c2 ∧ c = .slice A3 B.w.length c3 ∧ d = .slice A4 B.f.length c4 := by
  obtain ⟨⟨A1, c1, rfl, -, -, -, -⟩, ⟨A2, c2, rfl, -, -, -, -⟩, ⟨A3, c3, rfl, -, -, -, -⟩, ⟨A4, c4, rfl, -, -, -, -⟩⟩ := r
  exact ⟨A1, c1, A2, c2, A3, c3, A4, c4, rfl, rfl, rfl, rfl⟩
theorem OwnBn.rd (r : OwnBn w a b c d B bs) : RdBn w a b c d B := by
  obtain ⟨b1, b2, b3, b4, ⟨h1, h2, h3, h4⟩, -⟩ := r
  exact ⟨h1.rd, h2.rd, h3.rd, h4.rd⟩
theorem OwnBn.slices (r : OwnBn w a b c d B bs) : ∃ A1 c1 A2 c2 A3 c3 A4 c4, a = .slice A1 B.l.length c1 ∧ b = .slice A2 B.h.length c2 ∧ c = .slice A3 B.w.length c3 ∧ d = .slice A4 B.f.length c4 := by
  obtain ⟨A1, c1, A2, c2, A3, c3, A4, c4, ⟨e1, e2, e3, e4⟩, -⟩ := r.rd.slices
  exact ⟨A1, c1, A2, c2, A3, c3, A4, c4, e1, e2, e3, e4⟩
theorem OwnBn.lt (r : OwnBn w a b c d B bs) : ∀ b ∈ bs, b < w.heap.size := by
  obtain ⟨b1, b2, b3, b4, ⟨h1, h2, h3, h4⟩, -, rfl⟩ := r
  intro x hx
  simp only [List.mem_append] at hx
  rcases hx with hx | hx | hx | hx
  · exact h1.lt x hx
  · exact h2.lt x hx
  · exact h3.lt x hx
  · exact h4.lt x hx
theorem OwnBn.of_blocks (r : OwnBn w a b c d B bs) (hs : w.heap.size ≤ w'.heap.size) (hk : ∀ b ∈ bs, w'.heap[b]? = w.heap[b]?) : OwnBn w' a b c d B bs := by
  obtain ⟨b1, b2, b3, b4, ⟨h1, h2, h3, h4⟩, hd, rfl⟩ := r
  exact ⟨b1, b2, b3, b4, ⟨h1.of_blocks hs fun b hb => hk b (by simp [hb]), h2.of_blocks hs fun b hb => hk b (by simp [hb]), h3.of_blocks hs fun b hb => hk b (by simp [hb]), h4.of_blocks hs fun b hb => hk b (by simp [hb])⟩, hd, rfl⟩
theorem OwnBn.below (r : OwnBn w a b c d B bs) (hb : Below w.heap.size w w') : OwnBn w' a b c d B bs := r.of_blocks hb.size fun b hm => hb.block b (r.lt b hm)
theorem OwnBn.only (r : OwnBn w a b c d B bs) (hb : Only ks w w') (hd : ∀ b ∈ bs, b ∉ ks) : OwnBn w' a b c d B bs := r.of_blocks hb.size fun b hm => hb.block b (r.lt b hm) (hd b hm)
theorem OwnBn.far {k i : Nat} {u : Value} (r : OwnBn w a b c d B bs) (hb : ∀ x ∈ bs, x ≠ k) : OwnBn (w.setCell ⟨k, i, none⟩ u) a b c d B bs :=
  r.only (Only.setCell w u) fun x hx hm => hb x hx (by simpa using hm)
end
/-- returns a bench of its own -/
def RetBn (B : Bn) (w : World) (e : Ending) (w' : World) : Prop :=
  ∃ a b c d bs, e = .returned (.agg #[a, b, c, d, .int .i64 B.n]) ∧ OwnBn w' a b c d B bs ∧ (∀ b ∈ bs, w.heap.size ≤ b) ∧ Below w.heap.size w w'
def RetBnV (B : Bn) (v : Value) (w : World) (e : Ending) (w' : World) : Prop :=
  ∃ a b c d bs, e = .returned (.tuple #[.agg #[a, b, c, d, .int .i64 B.n], v]) ∧ OwnBn w' a b c d B bs ∧ (∀ b ∈ bs, w.heap.size ≤ b) ∧ Below w.heap.size w w'
end Go.Proofs.Ytkpgjeeofghldaa
