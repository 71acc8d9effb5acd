/- Plain lemmas: stripping the fences of a program into which fences were put is stripping the program, and its number of fences has grown by the number of spots. Conditions: the spots are valid. -/
import Derived.Test.YtgbgjlmkmlhefaaV12
namespace Go.Proofs.Ytgbgjlmkmlhefaa
set_option maxRecDepth 20000
set_option linter.unusedSimpArgs false
set_option linter.unusedVariables false
open Go.ChangeShapes Go.WideShapes Go.ChangeAt Go.RowKit
set_option linter.unusedVariables false
def nf (x : Ins) : Bool := x.o != 4
theorem retI_o (M : List Int) (i : Ins) : (retI M i).o = i.o := by unfold retI; split <;> rfl
theorem filter_ret (M : List Int) (L : List Ins) : (L.map (retI M)).filter nf = (L.filter nf).map (retI M) := by
  rw [List.filter_map]
  congr 1
  apply List.filter_congr
  intro x _
  simp [nf, retI_o]
theorem pcs_str (t : Nat) (xs : List Ins) : ∀ k, pcs (strP t xs) k = (xs.take k).filter nf
  | 0 => by simp [pcs]
  | k + 1 => by
    rw [pcs_snoc, pcs_str t xs k, List.take_add_one, List.filter_append]
    rfl
theorem put_nf (ss : List P2) (t : Nat) (xs : List Ins) : ∀ k, (pcs (putP ss t xs) k).filter nf = (xs.take k).filter nf
  | 0 => by simp [pcs]
  | k + 1 => by
    rw [pcs_snoc, List.filter_append, put_nf ss t xs k, List.take_add_one, List.filter_append]
    congr 1
    unfold putP
    rw [List.filter_append]
    have : (if hasS ss t k then [fenceI] else []).filter nf = [] := by split <;> simp [nf, fenceI]
    rw [this, List.nil_append]
theorem pcs_pre (F : Nat → List Ins) : ∀ (j k : Nat), j ≤ k → (pcs F k).take (pcs F j).length = pcs F j
  | j, 0, h => by
    obtain rfl : j = 0 := by omega
    simp [pcs]
  | j, k + 1, h => by
    by_cases hj : j = k + 1
    · subst hj
      exact List.take_length
    · rw [pcs_snoc]
      have h1 := pcs_pre F j k (by omega)
      have h2 : (pcs F j).length ≤ (pcs F k).length := by
        have := congrArg List.length h1
        rw [List.length_take] at this
        omega
      rw [List.take_append_of_le_length h2, h1]
theorem mvs_get {F : Nat → List Ins} {k j : Nat} (h : j < k) : (mvs F k).getD j 0 = ((pcs F j).length : Int) := by
  simp [mvs, h]
theorem pcs_mono (F : Nat → List Ins) {j k : Nat} (h : j ≤ k) : (pcs F j).length ≤ (pcs F k).length := by
  have := congrArg List.length (pcs_pre F j k h)
  rw [List.length_take] at this
  omega
theorem str_put (ss : List P2) (t u : Nat) {xs : List Ins} (h : tgtOk xs = true) : rebF (strP u (rebF (putP ss t xs) xs.length)) (rebF (putP ss t xs) xs.length).length = rebF (strP u xs) xs.length := by
  obtain ⟨P, hP⟩ : ∃ P, putP ss t xs = P := ⟨_, rfl⟩
  have hnf := put_nf ss t xs
  rw [hP] at hnf ⊢
  obtain ⟨L, hL⟩ : ∃ L, pcs P (xs.length + 1) = L := ⟨_, rfl⟩
  obtain ⟨M, hM⟩ : ∃ M, mvs P (xs.length + 1) = M := ⟨_, rfl⟩
  have hy : rebF P xs.length = L.map (retI M) := by unfold rebF; rw [hL, hM]
  rw [hy]
  unfold rebF
  rw [pcs_str, pcs_str, List.take_of_length_le (by omega), List.take_of_length_le (by omega), filter_ret]
  have hLf : L.filter nf = xs.filter nf := by
    have := hnf (xs.length + 1)
    rw [hL, List.take_of_length_le (by omega)] at this
    exact this
  rw [hLf, List.map_map]
  apply List.map_congr_left
  intro i hi
  have hix : i ∈ xs := (List.mem_filter.1 hi).1
  by_cases h6 : i.o = 6
  · obtain ⟨h0, h1⟩ := tgtOk_mem h hix h6
    obtain ⟨j, hj⟩ : ∃ j : Nat, i.n = j := ⟨i.n.toNat, by omega⟩
    have e1 : (retI M i).n = ((pcs P j).length : Int) := by
      simp only [retI, h6, if_true, hj, Int.toNat_natCast]
      rw [← hM, mvs_get (by omega)]
    have e2 : (retI M i) = ⟨6, i.r, i.s, ((pcs P j).length : Int)⟩ := by
      rw [← e1]
      simp [retI, h6]
    simp only [Function.comp, e2]
    have hle : (pcs P j).length ≤ (L.map (retI M)).length := by
      rw [List.length_map, ← hL]
      exact pcs_mono P (by omega)
    have e3 : (mvs (strP u (L.map (retI M))) ((L.map (retI M)).length + 1)).getD (pcs P j).length 0 = (((xs.take j).filter nf).length : Int) := by
      rw [mvs_get (by omega), pcs_str, ← List.map_take, ← hL, pcs_pre P _ _ (by omega), filter_ret, List.length_map, hnf]
    have e4 : (mvs (strP u xs) (xs.length + 1)).getD j 0 = (((xs.take j).filter nf).length : Int) := by rw [mvs_get (by omega), pcs_str]
    simp only [retI, h6, hj, Int.toNat_natCast, if_true, e3, e4]
  · simp [retI, h6]
theorem codeAt_outX (G : Nat → List Ins → Nat → List Ins) {xss : List (List Ins)} {n t : Nat} (h : t < n) : codeAt (outX G xss n) t = rebF (G t (codeAt xss t)) (codeAt xss t).length := by
  simp [codeAt, outX, h]
theorem tgt_codeAt {p : Pr} (h : progOkF p = true) (t : Nat) : tgtOk (codeAt p.x t) = true := by
  unfold codeAt
  cases hx : p.x[t]? with
  | none => rfl
  | some xs => exact codeOk_tgt ((progOk_parts h).2.2 xs (List.mem_of_getElem? hx))
theorem strR_put {p : Pr} (h : progOkF p = true) (ss : List P2) : strR (putR p ss) = strR p := by
  unfold strR putR
  simp only [outX_len]
  congr 1
  show (List.range p.x.length).map (fun t => rebF (strP t (codeAt (outX (putP ss) p.x p.x.length) t)) (codeAt (outX (putP ss) p.x p.x.length) t).length) = (List.range p.x.length).map (fun t => rebF (strP t (codeAt p.x t)) (codeAt p.x t).length)
  apply List.map_congr_left
  intro t ht
  rw [List.mem_range] at ht
  rw [codeAt_outX _ ht]
  exact str_put ss t t (tgt_codeAt h t)
/-- the fences that were put -/
def cntH (ss : List P2) (t n : Nat) : Nat := (List.range n).countP fun i : Nat => hasS ss t i
theorem fence_put (ss : List P2) (t : Nat) (xs : List Ins) : ∀ k, (pcs (putP ss t xs) k).countP fenceB = (xs.take k).countP fenceB + cntH ss t k
  | 0 => by simp [pcs, cntH]
  | k + 1 => by
    rw [pcs_snoc, List.countP_append, fence_put ss t xs k, List.take_add_one, List.countP_append]
    have : (putP ss t xs k).countP fenceB = xs[k]?.toList.countP fenceB + (if hasS ss t k then 1 else 0) := by
      unfold putP
      rw [List.countP_append]
      split <;> simp [fenceB, fenceI] <;> omega
    rw [this]
    unfold cntH
    rw [List.range_succ, List.countP_append]
    simp [List.countP_cons]
    omega
theorem fence_ret (M : List Int) (L : List Ins) : (L.map (retI M)).countP fenceB = L.countP fenceB := by
  rw [List.countP_map]
  congr 1
  funext x
  simp [fenceB, retI_o]
theorem fence_reb (ss : List P2) (t : Nat) (xs : List Ins) : (rebF (putP ss t xs) xs.length).countP fenceB = xs.countP fenceB + cntH ss t (xs.length + 1) := by
  unfold rebF
  rw [fence_ret, fence_put, List.take_of_length_le (by omega)]
def allH (xss : List (List Ins)) (ss : List P2) (k : Nat) : Nat := ((List.range k).map fun t => cntH ss t ((codeAt xss t).length + 1)).sum
theorem costX_put (ss : List P2) (xss : List (List Ins)) (n : Nat) : ∀ k, k ≤ n → k ≤ xss.length → costX (outX (putP ss) xss n) k = costX xss k + allH xss ss k
  | 0, _, _ => by simp [costX, allH]
  | k + 1, hk, hl => by
    have ih := costX_put ss xss n k (by omega) (by omega)
    obtain ⟨xs, hx⟩ : ∃ xs, xss[k]? = some xs := ⟨_, List.getElem?_eq_getElem hl⟩
    have h1 : (outX (putP ss) xss n)[k]? = some (rebF (putP ss k xs) xs.length) := by simp [outX, show k < n by omega, codeAt, hx]
    rw [costX_snoc h1, costX_snoc hx, ih, costN_all, costN_all, fence_reb]
    unfold allH
    rw [List.range_succ, List.map_append, List.sum_append]
    simp [codeAt, hx]
    omega
theorem cntH_cons {s : P2} {ss : List P2} {t : Nat} (hn : ∀ r ∈ ss, ¬ (r.a = s.a ∧ r.b = s.b)) : ∀ n, cntH (s :: ss) t n = cntH ss t n + (if s.a = t ∧ 0 ≤ s.b ∧ s.b < n then 1 else 0)
  | 0 => by
    have h0 : ¬ (s.a = (t : Int) ∧ 0 ≤ s.b ∧ s.b < ((0 : Nat) : Int)) := by omega
    rw [if_neg h0]
    rfl
  | n + 1 => by
    have ih := cntH_cons (t := t) hn n
    have e : ∀ qs : List P2, cntH qs t (n + 1) = cntH qs t n + (if hasS qs t n then 1 else 0) := by
      intro qs
      unfold cntH
      rw [List.range_succ, List.countP_append]
      simp [List.countP_cons]
    rw [e, e, ih]
    have hh : hasS (s :: ss) t n = (decide (s.a = t ∧ s.b = n) || hasS ss t n) := by
      unfold hasS
      rw [List.any_cons]
      congr 1
      by_cases h1 : s.a = t <;> by_cases h2 : s.b = n <;> simp [h1, h2]
    rw [hh]
    by_cases hs : s.a = t ∧ s.b = n
    · have hf : hasS ss t n = false := by
        unfold hasS
        rw [List.any_eq_false]
        intro r hr
        have := hn r hr
        rw [hs.1, hs.2] at this
        by_cases h1 : r.a = t <;> by_cases h2 : r.b = n <;> simp_all
      rw [hf, if_neg (by omega : ¬ (s.a = (t : Int) ∧ 0 ≤ s.b ∧ s.b < (n : Int))), if_pos (by omega : s.a = (t : Int) ∧ 0 ≤ s.b ∧ s.b < ((n + 1 : Nat) : Int))]
      simp [hs]
    · have hd : decide (s.a = (t : Int) ∧ s.b = (n : Int)) = false := by simpa using hs
      rw [hd, Bool.false_or]
      by_cases hq : s.a = (t : Int) ∧ 0 ≤ s.b ∧ s.b < (n : Int)
      · rw [if_pos hq, if_pos (by omega : s.a = (t : Int) ∧ 0 ≤ s.b ∧ s.b < ((n + 1 : Nat) : Int))]
        omega
      · rw [if_neg hq, if_neg (by omega : ¬ (s.a = (t : Int) ∧ 0 ≤ s.b ∧ s.b < ((n + 1 : Nat) : Int)))]
        omega
theorem allH_nil (xss : List (List Ins)) (k : Nat) : allH xss [] k = 0 := by
  unfold allH
  have h0 : ∀ t n, cntH [] t n = 0 := fun t n => by simp [cntH, hasS]
  simp only [h0]
  induction k with
  | zero => rfl
  | succ k ih => rw [List.range_succ, List.map_append, List.sum_append, ih]; rfl
theorem allH_cons {xss : List (List Ins)} {s : P2} {ss : List P2} (hn : ∀ r ∈ ss, ¬ (r.a = s.a ∧ r.b = s.b)) : ∀ k, allH xss (s :: ss) k = allH xss ss k + (if 0 ≤ s.a ∧ s.a < k ∧ 0 ≤ s.b ∧ s.b ≤ (codeAt xss s.a.toNat).length then 1 else 0)
  | 0 => by
    rw [if_neg (by omega)]
    rfl
  | k + 1 => by
    have ih := allH_cons (xss := xss) hn k
    have e : ∀ qs : List P2, allH xss qs (k + 1) = allH xss qs k + cntH qs k ((codeAt xss k).length + 1) := by
      intro qs
      unfold allH
      rw [List.range_succ, List.map_append, List.sum_append]
      simp
    rw [e, e, ih, cntH_cons hn]
    by_cases hk : s.a = k
    · have ht : s.a.toNat = k := by omega
      rw [ht]
      by_cases hb : 0 ≤ s.b ∧ s.b ≤ (codeAt xss k).length
      · rw [if_neg (by omega), if_pos (by omega), if_pos (by omega)]
        omega
      · rw [if_neg (by omega), if_neg (by omega), if_neg (by omega)]
        omega
    · by_cases hq : 0 ≤ s.a ∧ s.a < k ∧ 0 ≤ s.b ∧ s.b ≤ (codeAt xss s.a.toNat).length
      · rw [if_pos hq, if_neg (by omega), if_pos (by omega)]
        omega
      · rw [if_neg hq, if_neg (by omega), if_neg (by omega)]
        omega
theorem allH_all {xss : List (List Ins)} {k : Nat} : ∀ {ss : List P2}, (∀ s ∈ ss, 0 ≤ s.a ∧ s.a < k ∧ 0 ≤ s.b ∧ s.b ≤ (codeAt xss s.a.toNat).length) → ss.Pairwise (fun r s => ¬ (s.a = r.a ∧ s.b = r.b)) → allH xss ss k = ss.length
  | [], _, _ => allH_nil _ _
  | s :: ss, h, hp => by
    rw [List.pairwise_cons] at hp
    rw [allH_cons hp.1, if_pos (h s (by simp)), allH_all (fun r hr => h r (by simp [hr])) hp.2]
    simp
theorem spots_key {p : Pr} {ss : List P2} (h : spotsB p ss = true) : ∀ (d k : Nat) (r s : P2), ss[k]? = some r → ss[k + 1 + d]? = some s → keyS r < keyS s
  | d, k, r, s, hr, hs => by
    have okk : ∀ j q, ss[j]? = some q → spotB p q = true := fun j q hq => by
      have h1 := List.all_eq_true.1 h j (List.mem_range.2 (List.getElem?_eq_some_iff.1 hq).1)
      simp only [okS, hq, Bool.and_eq_true] at h1
      exact h1.1
    have step : ∀ j a b, ss[j]? = some a → ss[j + 1]? = some b → keyS a < keyS b := fun j a b ha hb => by
      have h1 := List.all_eq_true.1 h (j + 1) (List.mem_range.2 (List.getElem?_eq_some_iff.1 hb).1)
      simp only [okS, hb, Nat.add_sub_cancel, ha, Bool.and_eq_true] at h1
      exact lessS_key (by simpa using h1.2) (spotB_parts (okk j a ha)).2.2.2 (spotB_parts (okk _ b hb)).2.2.1
    match d with
    | 0 => exact step k r s hr hs
    | d + 1 =>
      have hb := (List.getElem?_eq_some_iff.1 hs).1
      obtain ⟨q, hm⟩ : ∃ q, ss[k + 1 + d]? = some q := ⟨_, List.getElem?_eq_getElem (by omega)⟩
      have h1 := spots_key h d k r _ hr hm
      have h2 := step (k + 1 + d) _ s hm (by rw [← hs]; congr 1)
      omega
theorem spots_apart {p : Pr} {ss : List P2} (h : spotsB p ss = true) : ss.Pairwise (fun r s => ¬ (s.a = r.a ∧ s.b = r.b)) := by
  rw [List.pairwise_iff_getElem]
  intro i j hi hj hij ⟨e1, e2⟩
  have := spots_key h (j - (i + 1)) i ss[i] ss[j] (List.getElem?_eq_getElem hi) (by rw [show i + 1 + (j - (i + 1)) = j by omega]; exact List.getElem?_eq_getElem hj)
  unfold keyS at this
  omega
theorem cost_put {p : Pr} {ss : List P2} (hp : progOkF p = true) (h : spotsB p ss = true) : costX (putR p ss).x (putR p ss).x.length = costX p.x p.x.length + ss.length := by
  unfold putR
  simp only [outX_len]
  rw [costX_put ss p.x _ _ (Nat.le_refl _) (Nat.le_refl _), allH_all ?_ (spots_apart h)]
  intro s hs
  obtain ⟨j, hj, rfl⟩ := List.getElem_of_mem hs
  have h1 := List.all_eq_true.1 h j (List.mem_range.2 hj)
  simp only [okS, List.getElem?_eq_getElem hj, Bool.and_eq_true] at h1
  have h2 := h1.1
  unfold spotB at h2
  rw [Bool.and_eq_true, Bool.and_eq_true] at h2
  have h3 := inB_true h2.2.1
  have h4 := inB_true h2.2.2
  omega
end Go.Proofs.Ytgbgjlmkmlhefaa
