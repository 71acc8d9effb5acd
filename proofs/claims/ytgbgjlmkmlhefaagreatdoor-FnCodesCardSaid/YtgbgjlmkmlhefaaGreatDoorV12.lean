/- Plain lemmas on codes and programs: pieces that stand for the places of a code, joined, with the jump targets moved; fences put at spots; fences stripped; candidate spots; the number of fences. No condition. -/
import Derived.Test.YtgbgjlmkmlhefaaGreatDoorA3
import Derived.Test.YtgbgjlmkmlhefaaGreatDoorTwo
namespace Go.Proofs.YtgbgjlmkmlhefaaGreatDoor
set_option maxRecDepth 20000
set_option linter.unusedSimpArgs false
set_option linter.unusedVariables false
open Go.ChangeShapes Go.WideShapes Go.ChangeAt Go.RowKit
set_option linter.unusedVariables false
/-- the pieces of the places below k, joined -/
def pcs (F : Nat → List Ins) (k : Nat) : List Ins := (List.range k).flatMap F
def mvs (F : Nat → List Ins) (k : Nat) : List Int := (List.range k).map fun j => ((pcs F j).length : Int)
def rebF (F : Nat → List Ins) (n : Nat) : List Ins := (pcs F (n + 1)).map (retI (mvs F (n + 1)))
def mvPart (F : Nat → List Ins) (n k : Nat) : List Int := mvs F k ++ List.replicate (n + 1 - k) 0
section
variable {F G : Nat → List Ins} {n k : Nat}
theorem pcs_zero : pcs F 0 = [] := rfl
theorem pcs_snoc (F : Nat → List Ins) (k : Nat) : pcs F (k + 1) = pcs F k ++ F k := by simp [pcs, List.range_succ]
theorem mvs_snoc (F : Nat → List Ins) (k : Nat) : mvs F (k + 1) = mvs F k ++ [((pcs F k).length : Int)] := by simp [mvs, List.range_succ]
theorem mvs_len (F : Nat → List Ins) (k : Nat) : (mvs F k).length = k := by simp [mvs]
theorem mvPart_zero (F : Nat → List Ins) (n : Nat) : List.replicate (n + 1) (Value.int .i64 0) = ints (mvPart F n 0) := by simp [mvPart, mvs, ints]
theorem mvPart_len (h : k ≤ n + 1) : (mvPart F n k).length = n + 1 := by simp [mvPart, mvs_len]; omega
theorem mvPart_all (F : Nat → List Ins) (n : Nat) : mvPart F n (n + 1) = mvs F (n + 1) := by simp [mvPart]
theorem mvPart_set (h : k < n + 1) : (mvPart F n k).set k ((pcs F k).length : Int) = mvPart F n (k + 1) := by
  unfold mvPart
  rw [List.set_append_right _ _ (by rw [mvs_len]; omega), mvs_len, Nat.sub_self, mvs_snoc, List.append_assoc]
  congr 1
  obtain ⟨d, hd⟩ : ∃ d, n + 1 - k = d + 1 := ⟨n - k, by omega⟩
  rw [hd, show n + 1 - (k + 1) = d by omega, List.replicate_succ, List.set_cons_zero]
  rfl
theorem pcs_len (hF : ∀ i, (F i).length ≤ 2) : ∀ k, (pcs F k).length ≤ 2 * k
  | 0 => by simp [pcs]
  | k + 1 => by
    have := pcs_len hF k
    have := hF k
    rw [pcs_snoc, List.length_append]
    omega
theorem rebF_len (F : Nat → List Ins) (n : Nat) : (rebF F n).length = (pcs F (n + 1)).length := by simp [rebF]
theorem pcs_mem {i : Ins} (h : i ∈ pcs F k) : ∃ j, i ∈ F j := by
  obtain ⟨j, -, h⟩ := List.mem_flatMap.1 h
  exact ⟨j, h⟩
end
/-- a fence behind each store -/
def fenP (xs : List Ins) (k : Nat) : List Ins :=
  match xs[k]? with
  | some x => [x] ++ (if lacksB xs k then [fenceI] else [])
  | none => []
theorem fenP_len (xs : List Ins) (k : Nat) : (fenP xs k).length ≤ 2 := by
  unfold fenP
  split
  · split <;> simp
  · simp
theorem fenAt_pcs (xs : List Ins) : ∀ k, fenAt xs k = pcs (fenP xs) k
  | 0 => rfl
  | k + 1 => by rw [pcs_snoc, ← fenAt_pcs xs k]; rfl
theorem fenP_end (xs : List Ins) : pcs (fenP xs) (xs.length + 1) = fenAt xs xs.length := by
  rw [pcs_snoc, fenAt_pcs]
  simp [fenP]
theorem movAt_mvs (xs : List Ins) (k : Nat) : movAt xs k = mvs (fenP xs) k := by simp [movAt, mvs, fenAt_pcs]
theorem wfF_reb (xs : List Ins) : wfF xs = if xs.length ≤ 16 ∧ tgtOk xs = true ∧ (rebF (fenP xs) xs.length).length ≤ 16 then some (rebF (fenP xs) xs.length) else none := by
  unfold wfF rebF
  rw [List.length_map, fenP_end, movAt_mvs]
theorem fenP_tgt {xs : List Ins} (h : tgtOk xs = true) {k : Nat} {i : Ins} (hi : i ∈ fenP xs k) (h6 : i.o = 6) : 0 ≤ i.n ∧ i.n ≤ xs.length :=
  fenAt_tgt (k := k + 1) h (by rw [fenAt_pcs, pcs_snoc]; exact List.mem_append.2 (.inr hi)) h6
/-- a valid code's jumps lead to places of it -/
theorem insOk_tgt {i : Ins} {c n : Int} (h : insOk i c n = true) (h6 : i.o = 6) : 0 ≤ i.n ∧ i.n ≤ n := by
  unfold insOk nOkF at h
  simp [h6] at h
  exact inB_true (by simp_all)
theorem codeOk_tgt {c : Int} {xs : List Ins} (h : codeOkF c xs = true) : tgtOk xs = true := by
  unfold codeOkF at h
  rw [Bool.and_eq_true] at h
  refine List.all_eq_true.2 fun i hi => ?_
  have h1 := List.all_eq_true.1 h.2 i hi
  unfold tgtB
  by_cases h6 : i.o = 6
  · have := insOk_tgt h1 h6
    simp [h6, inB, this]
  · simp [h6]
theorem tgtOk_mem {xs : List Ins} (h : tgtOk xs = true) {i : Ins} (hi : i ∈ xs) (h6 : i.o = 6) : 0 ≤ i.n ∧ i.n ≤ xs.length := by
  have := List.all_eq_true.1 h i hi
  simp only [tgtB, h6] at this
  exact inB_true (by simpa using this)
/-- fences at spots -/
def hasS (ss : List P2) (t i : Int) : Bool := ss.any fun s => s.a == t && s.b == i
def putP (ss : List P2) (t : Nat) (xs : List Ins) (i : Nat) : List Ins := (if hasS ss t i then [fenceI] else []) ++ xs[i]?.toList
def strP (t : Nat) (xs : List Ins) (i : Nat) : List Ins := xs[i]?.toList.filter fun x => x.o != 4
def codeAt (xss : List (List Ins)) (t : Nat) : List Ins := xss[t]?.getD []
def outX (G : Nat → List Ins → Nat → List Ins) (xss : List (List Ins)) (k : Nat) : List (List Ins) := (List.range k).map fun t => rebF (G t (codeAt xss t)) (codeAt xss t).length
theorem outX_snoc (G : Nat → List Ins → Nat → List Ins) {xss : List (List Ins)} {k : Nat} {xs : List Ins} (h : xss[k]? = some xs) : outX G xss (k + 1) = outX G xss k ++ [rebF (G k xs) xs.length] := by
  simp [outX, List.range_succ, codeAt, h]
theorem outX_len (G : Nat → List Ins → Nat → List Ins) (xss : List (List Ins)) (k : Nat) : (outX G xss k).length = k := by simp [outX]
theorem putP_len (ss : List P2) (t : Nat) (xs : List Ins) (i : Nat) : (putP ss t xs i).length ≤ 2 := by
  unfold putP
  rw [List.length_append]
  have : xs[i]?.toList.length ≤ 1 := by cases xs[i]? <;> simp
  split <;> simp <;> omega
theorem strP_len (t : Nat) (xs : List Ins) (i : Nat) : (strP t xs i).length ≤ 1 := by
  unfold strP
  have h1 : xs[i]?.toList.length ≤ 1 := by cases xs[i]? <;> simp
  exact Nat.le_trans (List.length_filter_le _ _) h1
theorem putP_tgt {ss : List P2} {t : Nat} {xs : List Ins} (h : tgtOk xs = true) {k : Nat} {i : Ins} (hi : i ∈ putP ss t xs k) (h6 : i.o = 6) : 0 ≤ i.n ∧ i.n ≤ xs.length := by
  unfold putP at hi
  rcases List.mem_append.1 hi with hi | hi
  · split at hi
    · rw [List.mem_singleton] at hi
      subst hi
      simp [fenceI] at h6
    · simp at hi
  · rw [Option.mem_toList] at hi
    exact tgtOk_mem h (List.mem_of_getElem? hi) h6
theorem strP_tgt {t : Nat} {xs : List Ins} (h : tgtOk xs = true) {k : Nat} {i : Ins} (hi : i ∈ strP t xs k) (h6 : i.o = 6) : 0 ≤ i.n ∧ i.n ≤ xs.length := by
  unfold strP at hi
  rw [List.mem_filter, Option.mem_toList] at hi
  exact tgtOk_mem h (List.mem_of_getElem? hi.1) h6
/-- a spot of a program -/
def spotB (p : Pr) (s : P2) : Bool := progOkF p && (inB s.a 0 ((p.x.length : Int) - 1) && inB s.b 0 (codeAt p.x s.a.toNat).length)
def lessS (a b : P2) : Bool := decide (a.a < b.a) || decide (a.a = b.a) && decide (a.b < b.b)
def okS (p : Pr) (ss : List P2) (k : Nat) : Bool :=
  match ss[k]? with
  | none => true
  | some s => spotB p s && (decide (k = 0) || match ss[k - 1]? with
    | none => true
    | some r => lessS r s)
def spotsB (p : Pr) (ss : List P2) : Bool := (List.range ss.length).all (okS p ss)
theorem okS_false {p : Pr} {ss : List P2} {k : Nat} (hk : k < ss.length) (h : okS p ss k = false) : spotsB p ss = false := by
  unfold spotsB
  rw [List.all_eq_false]
  exact ⟨k, List.mem_range.2 hk, by simp [h]⟩
theorem okS_snoc {p : Pr} {ss : List P2} {k : Nat} (h : (List.range k).all (okS p ss) = true) (h1 : okS p ss k = true) : (List.range (k + 1)).all (okS p ss) = true := by
  rw [List.range_succ, List.all_append, h]
  simp [h1]
def keyS (s : P2) : Int := s.a * 17 + s.b
theorem progOk_parts {p : Pr} (h : progOkF p = true) : (1 ≤ p.c ∧ p.c ≤ 16) ∧ (1 ≤ p.x.length ∧ p.x.length ≤ 3) ∧ ∀ xs ∈ p.x, codeOkF p.c xs = true := by
  unfold progOkF at h
  rw [Bool.and_eq_true, Bool.and_eq_true] at h
  have h1 := inB_true h.1.1
  have h2 := inB_true h.1.2
  exact ⟨h1, ⟨by omega, by omega⟩, List.all_eq_true.1 h.2⟩
theorem codeOk_len {c : Int} {xs : List Ins} (h : codeOkF c xs = true) : xs.length ≤ 16 := by
  unfold codeOkF at h
  rw [Bool.and_eq_true] at h
  simpa using h.1
theorem codeAt_len {p : Pr} (h : progOkF p = true) (t : Nat) : (codeAt p.x t).length ≤ 16 := by
  unfold codeAt
  cases hx : p.x[t]? with
  | none => simp
  | some xs => exact codeOk_len ((progOk_parts h).2.2 xs (List.mem_of_getElem? hx))
theorem spotB_parts {p : Pr} {s : P2} (h : spotB p s = true) : 0 ≤ s.a ∧ s.a ≤ 2 ∧ 0 ≤ s.b ∧ s.b ≤ 16 := by
  unfold spotB at h
  rw [Bool.and_eq_true, Bool.and_eq_true] at h
  have h1 := inB_true h.2.1
  have h2 := inB_true h.2.2
  have h3 := (progOk_parts h.1).2.1
  have h4 := codeAt_len h.1 s.a.toNat
  omega
theorem lessS_key {a b : P2} (h : lessS a b = true) (ha : a.b ≤ 16) (hb : 0 ≤ b.b) : keyS a < keyS b := by
  unfold lessS at h
  unfold keyS
  simp only [Bool.or_eq_true, Bool.and_eq_true, decide_eq_true_eq] at h
  omega
theorem key_ge {p : Pr} {ss : List P2} (h : spotsB p ss = true) : ∀ (k : Nat) (s : P2), ss[k]? = some s → (k : Int) ≤ keyS s
  | 0, s, hs => by
    have h1 := List.all_eq_true.1 h 0 (List.mem_range.2 (List.getElem?_eq_some_iff.1 hs).1)
    simp only [okS, hs, Bool.and_eq_true] at h1
    have := spotB_parts h1.1
    unfold keyS
    omega
  | k + 1, s, hs => by
    have hk := (List.getElem?_eq_some_iff.1 hs).1
    have h1 := List.all_eq_true.1 h (k + 1) (List.mem_range.2 hk)
    have hr : ss[k]? = some ss[k] := List.getElem?_eq_getElem (by omega)
    generalize ss[k] = r at hr
    have h2 := List.all_eq_true.1 h k (List.mem_range.2 (by omega))
    have h3 := key_ge h k r hr
    simp only [okS, hs, Nat.add_sub_cancel, hr, Bool.and_eq_true] at h1
    have h4 : spotB p r = true := by
      simp only [okS, hr, Bool.and_eq_true] at h2
      exact h2.1
    have h5 := lessS_key (by simpa using h1.2) (spotB_parts h4).2.2.2 (spotB_parts h1.1).2.2.1
    omega
theorem spots_len {p : Pr} {ss : List P2} (h : spotsB p ss = true) : ss.length ≤ 51 := by
  by_cases h0 : ss.length = 0
  · omega
  · have hr : ss[ss.length - 1]? = some ss[ss.length - 1] := List.getElem?_eq_getElem (by omega)
    generalize ss[ss.length - 1] = r at hr
    have h1 := key_ge h _ r hr
    have h2 := List.all_eq_true.1 h (ss.length - 1) (List.mem_range.2 (by omega))
    simp only [okS, hr, Bool.and_eq_true] at h2
    have := spotB_parts h2.1
    unfold keyS at h1
    omega
def putR (p : Pr) (ss : List P2) : Pr := ⟨p.c, outX (putP ss) p.x p.x.length⟩
def putF (p : Pr) (ss : List P2) : Option Pr := if progOkF p = true ∧ spotsB p ss = true ∧ progOkF (putR p ss) = true then some (putR p ss) else none
def strR (p : Pr) : Pr := ⟨p.c, outX strP p.x p.x.length⟩
def strF (p : Pr) : Option Pr := if progOkF p = true then some (strR p) else none
/-- the number of fences -/
def costN (xs : List Ins) (k : Nat) : Nat := (xs.take k).countP fenceB
def costX (xss : List (List Ins)) (k : Nat) : Nat := ((xss.take k).map fun xs => xs.countP fenceB).sum
def costF (p : Pr) : Int := if progOkF p = true then costX p.x p.x.length else -1
theorem costN_snoc {xs : List Ins} {k : Nat} {x : Ins} (h : xs[k]? = some x) : costN xs (k + 1) = costN xs k + (if fenceB x then 1 else 0) := by
  unfold costN
  rw [List.take_add_one, h, List.countP_append]
  simp [List.countP_cons]
theorem costN_all (xs : List Ins) : costN xs xs.length = xs.countP fenceB := by simp [costN]
theorem costX_snoc {xss : List (List Ins)} {k : Nat} {xs : List Ins} (h : xss[k]? = some xs) : costX xss (k + 1) = costX xss k + costN xs xs.length := by
  unfold costX costN
  rw [List.take_add_one, h]
  simp
theorem costN_le (xs : List Ins) (k : Nat) : costN xs k ≤ k := Nat.le_trans List.countP_le_length (by rw [List.length_take]; omega)
/-- the places of loads at which a store may still wait -/
def wtAt (xs : List Ins) : Nat → Bool
  | 0 => false
  | k + 1 => match xs[k]? with
    | some x => if x.o = 3 then true else if fenceB x = true ∨ x.o = 6 then false else wtAt xs k
    | none => false
def spB (xs : List Ins) (k : Nat) : Bool :=
  match xs[k]? with
  | some x => x.o == 2 && wtAt xs k
  | none => false
def spIn (xs : List Ins) (k : Nat) : List Int := ((List.range k).filter (spB xs)).map fun i : Nat => (i : Int)
theorem spIn_snoc (xs : List Ins) (k : Nat) : spIn xs (k + 1) = spIn xs k ++ (if spB xs k then [(k : Int)] else []) := by
  unfold spIn
  rw [List.range_succ, List.filter_append, List.map_append]
  cases h : spB xs k <;> simp [h]
theorem spIn_len (xs : List Ins) (k : Nat) : (spIn xs k).length ≤ k := by
  unfold spIn
  rw [List.length_map]
  exact Nat.le_trans (List.length_filter_le _ _) (by simp)
def tagS (t : Nat) (l : List Int) : List P2 := l.map fun i => ⟨(t : Int), i⟩
theorem tagS_len (t : Nat) (l : List Int) : (tagS t l).length = l.length := by simp [tagS]
theorem tagS_app (t : Nat) (l m : List Int) : tagS t (l ++ m) = tagS t l ++ tagS t m := by simp [tagS]
def spX (xss : List (List Ins)) (k : Nat) : List P2 := (List.range k).flatMap fun t => tagS t (spIn (codeAt xss t) (codeAt xss t).length)
theorem spX_snoc {xss : List (List Ins)} {k : Nat} {xs : List Ins} (h : xss[k]? = some xs) : spX xss (k + 1) = spX xss k ++ tagS k (spIn xs xs.length) := by
  simp [spX, List.range_succ, codeAt, h]
def spF (p : Pr) : List P2 := if progOkF p = true then spX p.x p.x.length else []
end Go.Proofs.YtgbgjlmkmlhefaaGreatDoor
