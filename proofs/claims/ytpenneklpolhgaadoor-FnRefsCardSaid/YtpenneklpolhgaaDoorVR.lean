/- Pure: along a play a reference that was freed is never good again, the good ones are those not freed, and there are as many live objects as references not freed. No condition. -/
import Derived.Test.YtpenneklpolhgaaDoorVP
namespace Go.Proofs.YtpenneklpolhgaaDoor
set_option maxRecDepth 20000
set_option linter.unusedSimpArgs false
set_option linter.unusedVariables false
set_option linter.unusedVariables false
/-- how many flags are set -/
def cntT : List Bool → Nat
  | [] => 0
  | b :: l => (if b then 1 else 0) + cntT l
theorem cntT_append : ∀ (a b : List Bool), cntT (a ++ b) = cntT a + cntT b
  | [], b => by simp [cntT]
  | x :: a, b => by simp only [List.cons_append, cntT, cntT_append a b]; omega
theorem cntT_set : ∀ {l : List Bool} {k : Nat} {x : Bool}, l[k]? = some x → ∀ y, cntT (l.set k y) + (if x then 1 else 0) = cntT l + (if y then 1 else 0)
  | [], k, x, h, y => by simp at h
  | b :: l, 0, x, h, y => by
    simp only [List.getElem?_cons_zero, Option.some.injEq] at h
    subst h
    simp only [List.set_cons_zero, cntT]
    omega
  | b :: l, k + 1, x, h, y => by
    have := cntT_set (l := l) (k := k) (x := x) (by simpa using h) y
    simp only [List.set_cons_succ, cntT]
    omega
/-- flags turned round -/
def nots (l : List Bool) : List Bool := l.map (!·)
theorem liveTo_cnt (h : Hp) : ∀ k, k ≤ h.l.length → (liveTo h k).length = cntT (h.l.take k)
  | 0, _ => rfl
  | k + 1, hk => by
    have ih := liveTo_cnt h k (by omega)
    have hx : h.l[k]? = some (h.l[k]'(by omega)) := List.getElem?_eq_getElem _
    rw [List.take_add_one, hx, cntT_append, ← ih]
    cases hb : h.l[k]'(by omega)
    · rw [liveTo_no (by rw [hx, hb])]
      simp [cntT]
    · simp only [liveTo, List.range_succ, List.filter_append, List.map_append, List.length_append]
      rw [hb] at hx
      simp [List.getD_eq_getElem?_getD, hx, cntT]
theorem hp_eta (h : Hp) : (⟨h.g, h.l⟩ : Hp) = h := rfl
theorem hpTo_set {h : Hp} {j : Nat} {x : Int} {y : Bool} (ho : hpOk h = true) (hx : gOk x y = true) : hpOk ⟨h.g.set j x, h.l.set j y⟩ = true := by
  obtain ⟨h1, h2, h3⟩ := hpOk_parts ho
  have hs : inB ((h.g.set j x).length : Int) 1 24 = true := by rw [List.length_set]; simp [inB]; omega
  rw [hpOk_all hs (by simp [h2])]
  unfold hpTo
  rw [List.all_eq_true]
  intro k hk
  have hk : k < h.g.length := by have := List.mem_range.1 hk; simpa using this
  have hkl : k < h.l.length := by omega
  by_cases e : j = k
  · subst e
    simp [List.getD_eq_getElem?_getD, hk, hkl, hx]
  · have h4 := hpTo_at h3 hk (List.getElem?_eq_getElem hk) (List.getElem?_eq_getElem hkl)
    simp only [List.getD_eq_getElem?_getD, List.getElem?_set_ne e, List.getElem?_eq_getElem hk, List.getElem?_eq_getElem hkl, Option.getD_some]
    exact h4
/-- what holds along a play: rs the references given, fr which were freed -/
structure RInv (h : Hp) (rs : List P2) (fr : List Bool) : Prop where
  ok : hpOk h = true
  len : fr.length = rs.length
  good : ∀ (k : Nat) r b, rs[k]? = some r → fr[k]? = some b → goodB h r = !b
  gen : ∀ r ∈ rs, ∃ j : Nat, r.a = j ∧ ∃ x, h.g[j]? = some x ∧ 1 ≤ r.b ∧ r.b ≤ x
  nodup : ∀ (i k : Nat) r, rs[i]? = some r → rs[k]? = some r → i = k
  cnt : cntT h.l = cntT (nots fr)
theorem goodB_iff {h : Hp} {j : Nat} {b x : Int} {y : Bool} (ho : hpOk h = true) (hx : h.g[j]? = some x) (hy : h.l[j]? = some y) : goodB h ⟨(j : Int), b⟩ = (y && decide (x = b)) := by
  have hi : inB (j : Int) 0 ((h.g.length : Int) - 1) = true := by
    have := (List.getElem?_eq_some_iff.1 hx).1
    simp [inB]
    omega
  simp [goodB, inH, ho, hi, List.getD_eq_getElem?_getD, hx, hy]
theorem RInv.start {n : Int} (hn : inB n 1 24 = true) : RInv (newHp n) [] [] := by
  have hh : newHp n = ⟨List.replicate n.toNat 0, List.replicate n.toNat false⟩ := by simp [newHp, hn]
  have hb := inB_true hn
  refine ⟨?_, rfl, fun k r b h => by simp at h, fun r h => by simp at h, fun i k r h => by simp at h, ?_⟩
  · rw [hh, hpOk_all (by simp [inB]; omega) (by simp)]
    unfold hpTo
    rw [List.all_eq_true]
    intro k hk
    have hk := List.mem_range.1 hk
    simp only [List.length_replicate] at hk
    simp [List.getD_eq_getElem?_getD, List.getElem?_replicate, hk, gOk, inB]
  · rw [hh]
    have : ∀ m, cntT (List.replicate m false) = 0 := fun m => by induction m with
      | zero => rfl
      | succ m ih => simp [List.replicate_succ, cntT, ih]
    simp [this, nots, cntT]
theorem RInv.alloc {h : Hp} {rs : List P2} {fr : List Bool} (r : RInv h rs fr) (ho : allocOk h = true) : RInv (allocH h) (rs ++ [allocR h]) (fr ++ [false]) := by
  have ho' := ho
  simp only [allocOk, Bool.and_eq_true, decide_eq_true_eq, Bool.not_eq_true', decide_eq_false_iff_not] at ho
  obtain ⟨hok, hfl, hm⟩ := ho
  obtain ⟨h1, h2, h3⟩ := hpOk_parts hok
  obtain ⟨j, hj⟩ : ∃ j, fre h.l = j := ⟨_, rfl⟩
  have hjl : j < h.l.length := by omega
  have hjg : j < h.g.length := by omega
  have hy : h.l[j]? = some false := by rw [← hj]; exact fre_get (by omega)
  obtain ⟨x, hx⟩ : ∃ x, h.g[j]? = some x := ⟨h.g[j], List.getElem?_eq_getElem hjg⟩
  have hmx : x ≠ 1000000 := by rw [hj] at hm; simpa [List.getD_eq_getElem?_getD, hx] using hm
  obtain ⟨-, e1, e2⟩ := alloc_at hok hj hjl hx hmx
  rw [e1, e2]
  have hgx := gOk_bounds (hpTo_at h3 hjg hx hy)
  have hok2 : hpOk ⟨h.g.set j (x + 1), h.l.set j true⟩ = true := hpTo_set hok (by simp [gOk, inB]; omega)
  have hx2 : (h.g.set j (x + 1))[j]? = some (x + 1) := by simp [hjg]
  have hy2 : (h.l.set j true)[j]? = some true := by simp [hjl]
  have hnew : ∀ q ∈ rs, q ≠ ⟨(j : Int), x + 1⟩ := by
    rintro q hq rfl
    obtain ⟨i, hi, z, hz, -, hz2⟩ := r.gen _ hq
    have hij : j = i := by simp at hi; omega
    subst hij
    rw [hx] at hz
    injection hz with hz
    simp at hz2
    omega
  refine ⟨hok2, by simp [r.len], fun k q b hk hb => ?_, fun q hq => ?_, fun i k q hi hk => ?_, ?_⟩
  · by_cases hkl : k < rs.length
    · rw [List.getElem?_append_left hkl] at hk
      rw [List.getElem?_append_left (by rw [r.len]; exact hkl)] at hb
      have hg := r.good k q b hk hb
      obtain ⟨i, hi, z, hz, hz1, hz2⟩ := r.gen q (List.mem_of_getElem? hk)
      obtain ⟨qa, qb⟩ := q
      simp only at hi hz1 hz2
      subst hi
      have hil := (List.getElem?_eq_some_iff.1 hz).1
      obtain ⟨y, hyi⟩ : ∃ y, h.l[i]? = some y := ⟨h.l[i]'(by omega), List.getElem?_eq_getElem _⟩
      rw [goodB_iff hok hz hyi] at hg
      by_cases e : i = j
      · subst e
        rw [hy] at hyi
        injection hyi with hyi
        subst hyi
        rw [hx] at hz
        injection hz with hz
        subst hz
        rw [goodB_iff hok2 hx2 hy2, ← hg]
        simp
        omega
      · rw [goodB_iff (x := z) (y := y) hok2 (by rw [List.getElem?_set_ne (Ne.symm e)]; exact hz) (by rw [List.getElem?_set_ne (Ne.symm e)]; exact hyi)]
        exact hg
    · have hk0 : k = rs.length := by
        have := (List.getElem?_eq_some_iff.1 hk).1
        simp at this
        omega
      subst hk0
      rw [List.getElem?_append_right (Nat.le_refl _), Nat.sub_self] at hk
      rw [List.getElem?_append_right (by rw [r.len]; exact Nat.le_refl _), r.len, Nat.sub_self] at hb
      simp only [List.getElem?_cons_zero, Option.some.injEq] at hk hb
      subst hk hb
      rw [goodB_iff hok2 hx2 hy2]
      simp
  · rcases List.mem_append.1 hq with hq | hq
    · obtain ⟨i, hi, z, hz, hz1, hz2⟩ := r.gen q hq
      by_cases e : i = j
      · subst e
        rw [hx] at hz
        injection hz with hz
        subst hz
        exact ⟨i, hi, x + 1, hx2, hz1, by omega⟩
      · exact ⟨i, hi, z, by rw [List.getElem?_set_ne (Ne.symm e)]; exact hz, hz1, hz2⟩
    · have := List.mem_singleton.1 hq
      subst this
      exact ⟨j, rfl, x + 1, hx2, by simp; omega, by simp⟩
  · by_cases hil : i < rs.length
    · by_cases hkl : k < rs.length
      · rw [List.getElem?_append_left hil] at hi
        rw [List.getElem?_append_left hkl] at hk
        exact r.nodup i k q hi hk
      · exfalso
        rw [List.getElem?_append_left hil] at hi
        rw [List.getElem?_append_right (by omega)] at hk
        have hk0 : k - rs.length = 0 := by
          have := (List.getElem?_eq_some_iff.1 hk).1
          simp at this
          omega
        rw [hk0] at hk
        simp only [List.getElem?_cons_zero, Option.some.injEq] at hk
        exact hnew q (List.mem_of_getElem? hi) hk.symm
    · have hi0 : i = rs.length := by
        have := (List.getElem?_eq_some_iff.1 hi).1
        simp at this
        omega
      by_cases hkl : k < rs.length
      · exfalso
        rw [List.getElem?_append_left hkl] at hk
        rw [List.getElem?_append_right (by omega), hi0, Nat.sub_self] at hi
        simp only [List.getElem?_cons_zero, Option.some.injEq] at hi
        exact hnew q (List.mem_of_getElem? hk) hi.symm
      · have := (List.getElem?_eq_some_iff.1 hk).1
        simp at this
        omega
  · have h5 := cntT_set hy true
    have h6 := r.cnt
    simp only [Bool.false_eq_true, if_false, if_true] at h5
    simp only [nots, List.map_append, cntT_append] at h6 ⊢
    simp [cntT] at *
    omega
theorem RInv.free {h : Hp} {rs : List P2} {fr : List Bool} (r : RInv h rs fr) {p : Nat} {q : P2} {b : Bool} (hq : rs[p]? = some q) (hb : fr[p]? = some b) : RInv (freeH h q) rs (fr.set p true) ∧ (decide (freeC h q = 0) = !b) := by
  have hg := r.good p q b hq hb
  obtain ⟨j, hj, x, hx, hx1, hx2⟩ := r.gen q (List.mem_of_getElem? hq)
  obtain ⟨h1, h2, h3⟩ := hpOk_parts r.ok
  have hjg := (List.getElem?_eq_some_iff.1 hx).1
  have hjl : j < h.l.length := by omega
  have hpl := (List.getElem?_eq_some_iff.1 hb).1
  have hin : inH h q.a = true := by rw [hj]; simp [inH, r.ok, inB]; omega
  cases b
  · have hgood : goodB h q = true := by simpa using hg
    obtain ⟨e1, e2⟩ := free_good hgood
    obtain ⟨y, hy⟩ : ∃ y, h.l[j]? = some y := ⟨h.l[j], List.getElem?_eq_getElem hjl⟩
    obtain ⟨qa, qb⟩ := q
    simp only at hj hx1 hx2
    subst hj
    have hyx := goodB_iff (b := qb) r.ok hx hy
    rw [hgood] at hyx
    have hyt : y = true ∧ x = qb := by simpa using hyx.symm
    obtain ⟨rfl, rfl⟩ := hyt
    refine ⟨?_, by rw [e1]; rfl⟩
    rw [e2]
    simp only [Int.toNat_natCast]
    have hgx := gOk_bounds (hpTo_at h3 hjg hx hy)
    have hok2 : hpOk ⟨h.g, h.l.set j false⟩ = true := by
      have := hpTo_set (h := h) (j := j) (x := x) (y := false) r.ok (by simp [gOk, inB]; omega)
      have e : h.g.set j x = h.g := by
        obtain ⟨hk, rfl⟩ := List.getElem?_eq_some_iff.1 hx
        exact List.set_getElem_self hk
      rwa [e] at this
    have hy2 : (h.l.set j false)[j]? = some false := by simp [hjl]
    refine ⟨hok2, by simp [r.len], fun k s c hk hc => ?_, r.gen, r.nodup, ?_⟩
    · obtain ⟨i, hi, z, hz, hz1, hz2⟩ := r.gen s (List.mem_of_getElem? hk)
      obtain ⟨sa, sb⟩ := s
      simp only at hi
      subst hi
      have hil := (List.getElem?_eq_some_iff.1 hz).1
      obtain ⟨u, hu⟩ : ∃ u, h.l[i]? = some u := ⟨h.l[i]'(by omega), List.getElem?_eq_getElem _⟩
      by_cases hkp : k = p
      · subst hkp
        rw [hq] at hk
        injection hk with hk
        injection hk with hk1 hk2
        have hij : j = i := by exact_mod_cast hk1
        subst hij
        rw [List.getElem?_set_self hpl] at hc
        injection hc with hc
        subst hc
        rw [goodB_iff hok2 hz hy2]
        rfl
      · rw [List.getElem?_set_ne (Ne.symm hkp)] at hc
        have hgk := r.good k _ c hk hc
        rw [goodB_iff r.ok hz hu] at hgk
        by_cases e : i = j
        · subst e
          rw [hy] at hu
          injection hu with hu
          subst hu
          rw [hx] at hz
          injection hz with hz
          subst hz
          rw [goodB_iff hok2 hx hy2]
          have hne : x ≠ sb := by
            rintro rfl
            exact hkp (r.nodup k p _ hk hq)
          have : c = true := by simpa [hne] using hgk
          rw [this]
          rfl
        · rw [goodB_iff (x := z) (y := u) hok2 hz (by rw [List.getElem?_set_ne (Ne.symm e)]; exact hu)]
          exact hgk
    · have h5 := cntT_set hy false
      have hnb : (nots fr)[p]? = some true := by simp [nots, hb]
      have h6 := cntT_set hnb false
      have h7 := r.cnt
      have e : nots (fr.set p true) = (nots fr).set p false := by simp [nots, List.map_set]
      rw [e]
      show cntT (h.l.set j false) = _
      simp only [Bool.false_eq_true, if_false, if_true] at h5 h6
      omega
  · have hgood : goodB h q = false := by simpa using hg
    obtain ⟨e1, e2⟩ := free_stale hin hgood
    have e : fr.set p true = fr := by
      obtain ⟨hk, h9⟩ := List.getElem?_eq_some_iff.1 hb
      rw [← h9]
      exact List.set_getElem_self hk
    rw [e1, e2, e]
    exact ⟨r, by rfl⟩
end Go.Proofs.YtpenneklpolhgaaDoor
