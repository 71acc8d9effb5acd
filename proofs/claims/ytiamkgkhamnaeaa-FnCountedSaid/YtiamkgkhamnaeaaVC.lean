/- The pure model of chapter 10: what an operation of the reference-counting scheme does to a bench and answers; the operations keep a bench valid; the counts. Plain lemmas, no condition. -/
import Derived.Test.YtiamkgkhamnaeaaN22
import Derived.Test.YtiamkgkhamnaeaaThree
namespace Go.Proofs.Ytiamkgkhamnaeaa
set_option maxRecDepth 20000
set_option linter.unusedSimpArgs false
set_option linter.unusedVariables false
open Go.ChangeShapes Go.WideShapes Go.ChangeAt Go.RowKit
set_option linter.unusedVariables false
def holdN (B : Bn) (x : Int) : Nat := (B.h.filter fun e => e.b == x).length
def linkN (B : Bn) (x : Int) : Nat := (B.l.filter fun y => y == x).length
/-- the references of an object: the link and the holds -/
def cntR (B : Bn) (x : Int) : Int := (linkN B x : Int) + (holdN B x : Int)
def refsOf (f : Nat → Int) : List Int := (List.range 61).map f
def refsF (B : Bn) : List Int := refsOf fun i => cntR B i
def idleB (B : Bn) (x : Int) : Bool := B.w.any (· == x) && decide (holdN B x = 0)
def relBn (B : Bn) (x : Int) : Bn := if idleB B x then freeBn B [x] else B
def relR (B : Bn) (x : Int) : Int := if idleB B x then 1 else 0
def stepBn (B : Bn) (o : O3) : Bn :=
  if bnOk B = false then B else if o.k = 0 then makeBn B else if o.k = 1 then takeBn B o.t o.x
  else if o.k = 2 then (if dropOk B o.t o.x then relBn (dropBn B o.t o.x) o.x else B)
  else if o.k = 3 then (if cutOk B o.x then relBn (cutBn B o.x) o.x else B) else B
def stepR (B : Bn) (o : O3) : Int :=
  if bnOk B = false then -1 else if o.k = 0 then makeR B else if o.k = 1 then (if takeOk B o.t o.x then (holdN (takeBn B o.t o.x) o.x : Int) else -1)
  else if o.k = 2 then (if dropOk B o.t o.x then relR (dropBn B o.t o.x) o.x else -1)
  else if o.k = 3 then (if cutOk B o.x then relR (cutBn B o.x) o.x else -1)
  else if o.k = 4 ∨ o.k = 5 ∨ o.k = 6 then (if inB o.t 0 4 then 0 else -1) else -1
theorem ofF_hold (B : Bn) (x : Int) : (ofF B x).length = holdN B x := by unfold ofF holdN; rw [List.length_map]
/-! the operations keep validity -/
theorem allBn_nodup {B : Bn} (h : BnOk B) : (allBn B).Nodup := h.2.1.2.1
theorem okBn_perm {B B' : Bn} (h : BnOk B) (hn : B'.n = B.n) (hp : (allBn B').Perm (allBn B)) (hl : B'.l.Pairwise (· < ·)) (hh : (∀ e ∈ B'.h, e ∈ B.h) ∧ B'.h.Nodup) : BnOk B' := by
  obtain ⟨h1, ⟨h2, h3, h4⟩, h5, h6, h7⟩ := h
  refine ⟨by rw [hn]; exact h1, ⟨by rw [hp.length_eq, hn]; exact h2, hp.nodup_iff.2 h3, fun x hx => by rw [hn]; exact h4 x (hp.mem_iff.1 hx)⟩, hl, fun e he => by rw [hn]; exact h6 e (hh.1 e he), hh.2⟩
theorem make_ok {B : Bn} (h : bnOk B = true) : bnOk (makeBn B) = true := by
  cases hm : makeOk B with
  | false => rw [(makeOk_no hm).1]; exact h
  | true =>
    rw [(makeOk_yes hm).1]
    obtain ⟨h1, ⟨h2, h3, h4⟩, h5, h6, h7⟩ := bnOk_iff.1 h
    have hn : B.n ≤ 60 := by
      unfold makeOk at hm
      simp at hm
      exact hm.2
    have hp : (allBn { B with l := B.l ++ [B.n], n := B.n + 1 }).Perm (B.n :: allBn B) := by
      unfold allBn
      simp only [List.append_assoc, List.singleton_append]
      exact List.perm_middle
    refine bnOk_iff.2 ⟨⟨by show 1 ≤ B.n + 1; omega, by show B.n + 1 ≤ 61; omega⟩, ⟨?_, ?_, ?_⟩, ?_, ?_, h7⟩
    · rw [hp.length_eq]; simp only [List.length_cons]; omega
    · refine hp.nodup_iff.2 (List.nodup_cons.2 ⟨fun hx => ?_, h3⟩)
      have := h4 _ hx
      omega
    · intro x hx
      rcases List.mem_cons.1 (hp.mem_iff.1 hx) with rfl | hx
      · exact ⟨h1.1, by show B.n < B.n + 1; omega⟩
      · have := h4 x hx
        exact ⟨this.1, by show x < B.n + 1; omega⟩
    · refine List.pairwise_append.2 ⟨h5, by simp, fun a ha b hb => ?_⟩
      have := h4 a (by unfold allBn; simp [ha])
      rw [List.mem_singleton.1 hb]
      exact this.2
    · intro e he
      have := h6 e he
      exact ⟨this.1, this.2.1, by show e.b < B.n + 1; omega⟩
theorem takeOk_parts {B : Bn} {t x : Int} (h : takeOk B t x = true) : bnOk B = true ∧ (0 ≤ t ∧ t ≤ 4) ∧ x ∈ B.l ∧ (⟨t, x⟩ : P2) ∉ B.h := by
  unfold takeOk inB at h
  simp only [Bool.and_eq_true, Bool.not_eq_true', decide_eq_true_eq, decide_eq_false_iff_not] at h
  exact ⟨h.1, h.2.1, any_mem.1 h.2.2.1, h.2.2.2⟩
theorem take_ok {B : Bn} {t x : Int} (h : bnOk B = true) : bnOk (takeBn B t x) = true := by
  unfold takeBn
  split
  · rename_i hk
    obtain ⟨-, ht, hx, hn⟩ := takeOk_parts hk
    obtain ⟨h1, ⟨h2, h3, h4⟩, h5, h6, h7⟩ := bnOk_iff.1 h
    have hxx := h4 x (by unfold allBn; simp [hx])
    refine bnOk_iff.2 ⟨h1, ⟨h2, h3, h4⟩, h5, fun e he => ?_, ?_⟩
    · rcases List.mem_append.1 he with he | he
      · exact h6 e he
      · rw [List.mem_singleton.1 he]
        exact ⟨ht, hxx⟩
    · refine List.nodup_append.2 ⟨h7, by simp, fun a ha b hb => ?_⟩
      rw [List.mem_singleton.1 hb]
      intro e
      exact hn (e ▸ ha)
  · exact h
theorem drop_ok {B : Bn} {t x : Int} (h : bnOk B = true) : bnOk (dropBn B t x) = true := by
  unfold dropBn
  split
  · obtain ⟨h1, ⟨h2, h3, h4⟩, h5, h6, h7⟩ := bnOk_iff.1 h
    exact bnOk_iff.2 ⟨h1, ⟨h2, h3, h4⟩, h5, fun e he => h6 e (List.mem_filter.1 he).1, h7.filter _⟩
  · exact h
theorem lessF_perm {l : List Int} {x : Int} (hn : l.Nodup) (hx : x ∈ l) : l.Perm (x :: lessF l x) := by
  have e : lessF l x = l.erase x := by
    rw [hn.erase_eq_filter x]
    rfl
  rw [e]
  exact List.perm_cons_erase hx
theorem cut_ok {B : Bn} {x : Int} (h : bnOk B = true) : bnOk (cutBn B x) = true := by
  unfold cutBn
  split
  · rename_i hk
    unfold cutOk at hk
    simp only [Bool.and_eq_true] at hk
    have hx := any_mem.1 hk.2
    have ho := bnOk_iff.1 h
    have hnl : B.l.Nodup := (List.nodup_append.1 (show (B.l ++ (B.w ++ B.f)).Nodup from ho.2.1.2.1)).1
    refine bnOk_iff.2 (okBn_perm ho rfl ?_ (ho.2.2.1.filter _) ⟨fun e he => he, ho.2.2.2.2⟩)
    unfold allBn
    show (lessF B.l x ++ ((B.w ++ [x]) ++ B.f)).Perm (B.l ++ (B.w ++ B.f))
    refine List.Perm.symm (((lessF_perm hnl hx).append_right _).trans ?_)
    rw [show lessF B.l x ++ ((B.w ++ [x]) ++ B.f) = (lessF B.l x ++ B.w) ++ x :: B.f by simp, show (x :: lessF B.l x) ++ (B.w ++ B.f) = x :: ((lessF B.l x ++ B.w) ++ B.f) by simp]
    exact List.perm_middle.symm
  · exact h
theorem takeAll_perm : ∀ {w l wf : List Int}, w.Nodup → takeAll w l = some wf → w.Perm (l ++ wf)
  | w, [], wf, hn, h => by injection h with h; subst h; exact List.Perm.refl _
  | w, x :: l, wf, hn, h => by
    rw [takeAll] at h
    split at h
    · rename_i hm
      have hp := lessF_perm hn (any_mem.1 hm)
      exact hp.trans (List.Perm.cons x (takeAll_perm (hn.filter _) h))
    · cases h
theorem free_ok {B : Bn} {l : List Int} (h : bnOk B = true) : bnOk (freeBn B l) = true := by
  cases ht : takeAll B.w l with
  | none => rw [(free_no (.inr ht)).1]; exact h
  | some wf =>
    rw [(free_yes h ht).1]
    have ho := bnOk_iff.1 h
    have hnw : B.w.Nodup := (List.nodup_append.1 (List.nodup_append.1 (show (B.l ++ (B.w ++ B.f)).Nodup from ho.2.1.2.1)).2.1).1
    refine bnOk_iff.2 (okBn_perm ho rfl ?_ ho.2.2.1 ⟨fun e he => he, ho.2.2.2.2⟩)
    unfold allBn
    show (B.l ++ (wf ++ (B.f ++ l))).Perm (B.l ++ (B.w ++ B.f))
    refine List.Perm.append_left _ ?_
    refine List.Perm.symm (((takeAll_perm hnw ht).append_right _).trans ?_)
    rw [List.append_assoc]
    refine (List.perm_append_comm).trans ?_
    rw [List.append_assoc]
theorem rel_ok {B : Bn} {x : Int} (h : bnOk B = true) : bnOk (relBn B x) = true := by
  unfold relBn
  split
  · exact free_ok h
  · exact h
theorem step_ok {B : Bn} (o : O3) (h : bnOk B = true) : bnOk (stepBn B o) = true := by
  unfold stepBn
  simp only [h, Bool.true_eq_false, if_false]
  split
  · exact make_ok h
  · split
    · exact take_ok h
    · split
      · split
        · exact rel_ok (drop_ok h)
        · exact h
      · split
        · split
          · exact rel_ok (cut_ok h)
          · exact h
        · exact h
/-! the counts -/
theorem refsOf_len (f : Nat → Int) : (refsOf f).length = 61 := by simp [refsOf]
theorem refsOf_at (f : Nat → Int) {k : Nat} (hk : k < 61) : (refsOf f)[k]? = some (f k) := by simp [refsOf, hk]
theorem refsOf_set {f g : Nat → Int} {k : Nat} (h : ∀ i, i < 61 → g i = if i = k then g k else f i) : (refsOf f).set k (g k) = refsOf g := by
  refine List.ext_getElem? fun i => ?_
  by_cases hi : i < 61
  · rw [refsOf_at g hi, h i hi, List.getElem?_set, refsOf_len, refsOf_at f hi]
    by_cases e : k = i
    · subst e
      simp [hi]
    · simp [e, Ne.symm e, fun h : i = k => e h.symm]
  · rw [List.getElem?_eq_none (by simp [refsOf_len]; omega), List.getElem?_eq_none (by simp [refsOf_len]; omega)]
theorem refsOf_congr {f g : Nat → Int} (h : ∀ i, i < 61 → f i = g i) : refsOf f = refsOf g := by
  unfold refsOf
  exact List.map_congr_left fun i hi => h i (List.mem_range.1 hi)
theorem linkN_one {B : Bn} (h : bnOk B = true) (x : Int) : (linkN B x : Int) = if B.l.any (· == x) then 1 else 0 := by
  have hn : B.l.Nodup := (List.nodup_append.1 (show (B.l ++ (B.w ++ B.f)).Nodup from (bnOk_iff.1 h).2.1.2.1)).1
  unfold linkN
  by_cases hx : x ∈ B.l
  · rw [if_pos (any_mem.2 hx)]
    have := (lessF_perm hn hx).filter (fun y => y == x)
    rw [this.length_eq, List.filter_cons_of_pos (by simp), List.length_cons]
    have e : (lessF B.l x).filter (fun y => y == x) = [] := by
      rw [List.filter_eq_nil_iff]
      intro a ha
      unfold lessF at ha
      have := (List.mem_filter.1 ha).2
      simpa using this
    rw [e]
    rfl
  · rw [if_neg (by rw [any_mem]; exact hx)]
    have e : B.l.filter (fun y => y == x) = [] := by
      rw [List.filter_eq_nil_iff]
      intro a ha he
      exact hx (by rw [← (by simpa using he : a = x)]; exact ha)
    rw [e]
    rfl
theorem cnt_le {B : Bn} (h : bnOk B = true) (x : Int) : 0 ≤ cntR B x ∧ cntR B x ≤ 301 := by
  have h1 := linkN_one h x
  have h2 : holdN B x ≤ 300 := by
    have := bnOk_held (bnOk_iff.1 h)
    have := List.length_filter_le (fun e : P2 => e.b == x) B.h
    unfold holdN
    omega
  unfold cntR
  split at h1 <;> omega
theorem make_cnt {B : Bn} (h : makeOk B = true) (i : Int) : cntR (makeBn B) i = if i = B.n then cntR B i + 1 else cntR B i := by
  rw [(makeOk_yes h).1]
  unfold cntR linkN holdN
  simp only [List.filter_append, List.length_append]
  by_cases e : i = B.n
  · subst e
    simp
    omega
  · rw [if_neg e, List.filter_cons_of_neg (by simp; exact fun e' => e e'.symm)]
    simp
theorem take_cnt {B : Bn} {t x : Int} (h : takeOk B t x = true) (i : Int) : cntR (takeBn B t x) i = if i = x then cntR B i + 1 else cntR B i := by
  unfold takeBn
  rw [if_pos h]
  unfold cntR linkN holdN
  simp only [List.filter_append, List.length_append]
  by_cases e : i = x
  · subst e
    simp
    omega
  · rw [if_neg e, List.filter_cons_of_neg (by simp; exact fun e' => e e'.symm)]
    simp
theorem dropF_cnt {h : List P2} {t x : Int} (hn : h.Nodup) (hm : (⟨t, x⟩ : P2) ∈ h) (i : Int) :
    ((h.filter fun e => e.b == i).length : Int) = ((h.filter fun e => !decide (e = ⟨t, x⟩)).filter fun e => e.b == i).length + (if i = x then 1 else 0) := by
  have hp : h.Perm ((⟨t, x⟩ : P2) :: h.filter fun e => !decide (e = ⟨t, x⟩)) := by
    have e : h.erase ⟨t, x⟩ = h.filter fun e => !decide (e = ⟨t, x⟩) := by
      rw [hn.erase_eq_filter]
      rfl
    rw [← e]
    exact List.perm_cons_erase hm
  rw [(hp.filter _).length_eq]
  by_cases e : i = x
  · subst e
    rw [List.filter_cons_of_pos (by simp), List.length_cons, if_pos rfl]
    omega
  · rw [List.filter_cons_of_neg (by simp; exact fun e' => e e'.symm), if_neg e]
    omega
theorem drop_cnt {B : Bn} {t x : Int} (h : dropOk B t x = true) (i : Int) : cntR (dropBn B t x) i = if i = x then cntR B i + -1 else cntR B i := by
  unfold dropBn
  rw [if_pos h]
  unfold dropOk at h
  simp only [Bool.and_eq_true, decide_eq_true_eq] at h
  have := dropF_cnt (bnOk_iff.1 h.1).2.2.2.2 h.2 i
  unfold cntR linkN holdN
  rw [this]
  dsimp only
  split <;> omega
theorem cut_cnt {B : Bn} {x : Int} (h : cutOk B x = true) (i : Int) : cntR (cutBn B x) i = if i = x then cntR B i + -1 else cntR B i := by
  have h' := h
  unfold cutOk at h
  simp only [Bool.and_eq_true] at h
  have hk := cut_ok (x := x) h.1
  have e1 : (cutBn B x).h = B.h := by unfold cutBn; rw [if_pos h']
  have e2 : (cutBn B x).l = lessF B.l x := by unfold cutBn; rw [if_pos h']
  unfold cntR
  rw [linkN_one hk, linkN_one h.1, e2, show holdN (cutBn B x) i = holdN B i by unfold holdN; rw [e1]]
  by_cases e : i = x
  · subst e
    rw [if_neg (by rw [any_mem]; unfold lessF; simp), if_pos h.2, if_pos rfl]
    omega
  · rw [if_neg e]
    have : (lessF B.l x).any (· == i) = B.l.any (· == i) := by
      rw [Bool.eq_iff_iff, any_mem, any_mem]
      unfold lessF
      simp [e]
    rw [this]
theorem free_same {B : Bn} {l : List Int} : (freeBn B l).l = B.l ∧ (freeBn B l).h = B.h := by
  unfold freeBn
  split
  · split <;> exact ⟨rfl, rfl⟩
  · exact ⟨rfl, rfl⟩
theorem free_cntR {B : Bn} {l : List Int} (i : Int) : cntR (freeBn B l) i = cntR B i := by
  unfold cntR linkN holdN
  rw [free_same.1, free_same.2]
theorem takeAll_one (w : List Int) (x : Int) : takeAll w [x] = if w.any (· == x) then some (lessF w x) else none := by
  rw [takeAll]
  rfl
theorem freeOk_one {B : Bn} {x : Int} (h : bnOk B = true) : freeOk B [x] = B.w.any (· == x) := by
  unfold freeOk
  rw [h, takeAll_one]
  cases B.w.any (· == x) <;> simp
/-- the last reference: x is freed just where the model frees it -/
theorem idle_iff {B : Bn} {x : Int} (h : bnOk B = true) : idleB B x = (decide (cntR B x ≤ 0) && freeOk B [x]) := by
  rw [freeOk_one h, Bool.eq_iff_iff]
  unfold idleB
  simp only [Bool.and_eq_true, decide_eq_true_eq]
  have h1 := linkN_one h x
  constructor
  · rintro ⟨hw, h0⟩
    have hx : x ∉ B.l := fun hl => by
      have := (List.nodup_append.1 (show (B.l ++ (B.w ++ B.f)).Nodup from (bnOk_iff.1 h).2.1.2.1)).2.2 x hl x (List.mem_append.2 (.inl (any_mem.1 hw)))
      exact this rfl
    rw [if_neg (by rw [any_mem]; exact hx)] at h1
    exact ⟨by unfold cntR; omega, hw⟩
  · rintro ⟨h0, hw⟩
    refine ⟨hw, ?_⟩
    unfold cntR at h0
    omega
theorem take_hold {B : Bn} {t x : Int} (h : takeOk B t x = true) : cntR (takeBn B t x) x - 1 = holdN (takeBn B t x) x := by
  obtain ⟨h0, -, hx, -⟩ := takeOk_parts h
  have h1 := linkN_one (take_ok (t := t) (x := x) h0) x
  have : (takeBn B t x).l = B.l := by unfold takeBn; split <;> rfl
  rw [this, if_pos (any_mem.2 hx)] at h1
  unfold cntR
  omega
theorem held_range {B : Bn} (h : bnOk B = true) : (∀ x ∈ allBn B, 1 ≤ x ∧ x < 61) ∧ ∀ e ∈ B.h, 1 ≤ e.b ∧ e.b < 61 := by
  have ho := bnOk_iff.1 h
  refine ⟨fun x hx => ?_, fun e he => ?_⟩
  · have := ho.2.1.2.2 x hx
    have := ho.1
    omega
  · have := (ho.2.2.2.1 e he).2
    have := ho.1
    omega
end Go.Proofs.Ytiamkgkhamnaeaa
