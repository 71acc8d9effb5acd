/- A machine in a box, whose rows are its own: what may be written and what then is known. Plain lemmas, no condition. -/
import Derived.Test.YtiflooopfpcelaaV4
import Derived.Test.YtiflooopfpcelaaM6
namespace Go.Proofs.Ytiflooopfpcelaa
set_option maxRecDepth 20000
set_option linter.unusedSimpArgs false
set_option linter.unusedVariables false
open Go.RowKit
def tblk (ths : List Th) (vs : List (Value × Value)) (qs : List (List Nat × List Nat)) (bT : Nat) : List Nat := bT :: blks (thRows ths vs qs)
/-- the machine M lies in the box gm; its threads' row begins at ⟨bT, oT⟩ -/
structure MB (W : World) (gm bT oT c : Nat) (mv : Value) (M : Ma) (vs : List (Value × Value)) (qs : List (List Nat × List Nat)) (bm : List Nat) : Prop where
  box : Bk W gm #[mv, .slice (some ⟨bT, oT, none⟩) M.ths.length c] 41
  mem : Own W mv 1 M.mem.length (ints M.mem) bm
  ths : OwnT W (.slice (some ⟨bT, oT, none⟩) M.ths.length c) M.ths vs qs [bT]
  d1 : ∀ b ∈ bm, b ∉ tblk M.ths vs qs bT
  d2 : gm ∉ bm ∧ gm ∉ tblk M.ths vs qs bT
def MBx (W : World) (gm bT oT c : Nat) (M : Ma) (L : List Nat) : Prop := ∃ mv vs qs bm, MB W gm bT oT c mv M vs qs bm ∧ L = gm :: (bm ++ tblk M.ths vs qs bT)
section
variable {W W' : World} {gm bT oT c : Nat} {mv : Value} {M : Ma} {vs : List (Value × Value)} {qs : List (List Nat × List Nat)} {bm L : List Nat} {k : Nat} {t : Th} {a f : Value} {qa qb : List Nat}
theorem tblk_row (ths : List Th) (vs : List (Value × Value)) (qs : List (List Nat × List Nat)) (bT : Nat) (v : Value) (n : Nat) (cs : List Value) : blks (⟨v, 3, n, cs, [bT]⟩ :: thRows ths vs qs) = tblk ths vs qs bT := by
  rw [blks_cons]
  rfl
theorem MB.lt (h : MB W gm bT oT c mv M vs qs bm) : ∀ b ∈ gm :: (bm ++ tblk M.ths vs qs bT), b < W.heap.size := by
  intro b hb
  rcases List.mem_cons.1 hb with rfl | hb
  · exact h.box.lt
  rcases List.mem_append.1 hb with hb | hb
  · exact h.mem.lt b hb
  · have := h.ths.own.lt
    rw [tblk_row] at this
    exact this b hb
theorem MBx.lt (h : MBx W gm bT oT c M L) : ∀ b ∈ L, b < W.heap.size := by
  obtain ⟨mv, vs, qs, bm, h, rfl⟩ := h
  exact h.lt
theorem MB.of_blocks (h : MB W gm bT oT c mv M vs qs bm) (hs : W.heap.size ≤ W'.heap.size) (hk : ∀ b ∈ gm :: (bm ++ tblk M.ths vs qs bT), W'.heap[b]? = W.heap[b]?) : MB W' gm bT oT c mv M vs qs bm := by
  refine ⟨(hk gm (by simp)).trans h.box, h.mem.of_blocks hs fun b hb => hk b (by simp [hb]), ⟨h.ths.lv, h.ths.lq, h.ths.own.of_blocks hs fun b hb => hk b ?_⟩, h.d1, h.d2⟩
  rw [tblk_row] at hb
  simp [hb]
theorem MB.below (h : MB W gm bT oT c mv M vs qs bm) (hb : Below W.heap.size W W') : MB W' gm bT oT c mv M vs qs bm := h.of_blocks hb.size fun b hm => hb.block b (h.lt b hm)
theorem MB.x (h : MB W gm bT oT c mv M vs qs bm) : MBx W gm bT oT c M (gm :: (bm ++ tblk M.ths vs qs bT)) := ⟨mv, vs, qs, bm, h, rfl⟩
theorem MBx.below (h : MBx W gm bT oT c M L) (hb : Below W.heap.size W W') : MBx W' gm bT oT c M L := by
  obtain ⟨mv, vs, qs, bm, h, rfl⟩ := h
  exact (h.below hb).x
theorem MBx.only {ks : List Nat} (h : MBx W gm bT oT c M L) (ho : Only ks W W') (hd : ∀ b ∈ L, b ∉ ks) : MBx W' gm bT oT c M L := by
  obtain ⟨mv, vs, qs, bm, h, rfl⟩ := h
  exact (h.of_blocks ho.size fun b hb => ho.block b (h.lt b hb) (hd b hb)).x
theorem mem_tblk_v (ht : M.ths[k]? = some t) (hp : vs[k]? = some (a, f)) (hq : qs[k]? = some (qa, qb)) : (∀ b ∈ qa, b ∈ tblk M.ths vs qs bT) ∧ ∀ b ∈ qb, b ∈ tblk M.ths vs qs bT := by
  obtain ⟨r1, r2⟩ := thRows_at ht hp hq
  exact ⟨fun b hb => by simp only [tblk, List.mem_cons]; exact .inr (mem_blks_at r1 b hb), fun b hb => by simp only [tblk, List.mem_cons]; exact .inr (mem_blks_at r2 b hb)⟩
/-- blocks of the threads' rows do not turn on counters or values -/
theorem tblk_len {ths us : List Th} (h : ths.length = us.length) : tblk ths vs qs bT = tblk us vs qs bT := by
  have key : ∀ (xs ys : List Th) (ps : List (Value × Value)) (zs : List (List Nat × List Nat)), xs.length = ys.length → blks (thRows xs ps zs) = blks (thRows ys ps zs) := by
    intro xs
    induction xs with
    | nil =>
      intro ys ps zs h
      have : ys = [] := List.eq_nil_of_length_eq_zero h.symm
      subst this
      rfl
    | cons x xs ih =>
      intro ys ps zs h
      match ys, ps, zs, h with
      | [], _, _, h => simp at h
      | y :: ys, [], _, h => rfl
      | y :: ys, p :: ps, [], h => rfl
      | y :: ys, p :: ps, z :: zs, h =>
        rw [thRows, thRows, blks_cons, blks_cons, blks_cons, blks_cons, ih ys ps zs (by simpa using h)]
        rfl
  unfold tblk
  rw [key _ _ _ _ h]
/-- a value of thread k is written -/
theorem MB.setV (h : MB W gm bT oT c mv M vs qs bm) (ht : M.ths[k]? = some t) {bv ov n cv : Nat} (hp : vs[k]? = some (.slice (some ⟨bv, ov, none⟩) n cv, f)) (hq : qs[k]? = some (qa, qb)) (j : Nat) (hj : j < t.v.length) (x : Int) :
    MB (W.setCell ⟨bv, ov + j, none⟩ (.int .i64 x)) gm bT oT c mv ⟨M.mem, M.ths.set k { t with v := t.v.set j x }⟩ vs qs bm ∧ bv ∈ tblk M.ths vs qs bT := by
  have hv : Own W (.slice (some ⟨bv, ov, none⟩) n cv) 1 t.v.length (ints t.v) qa := h.ths.vals ht hp hq
  obtain ⟨b', o', c', he, rfl, -, -, -, -⟩ := hv.open_ (by omega)
  injection he with he1 hn he3
  injection he1 with he1
  injection he1 with he1 he2
  subst he1 he2 he3 hn
  have hm := (mem_tblk_v (bT := bT) ht hp hq).1
  have hbm : bv ∈ tblk M.ths vs qs bT := hm bv (by simp)
  have h1 := Own.set_ hv j (.int .i64 x)
  have h2 : Own (W.setCell ⟨bv, ov + j, none⟩ (.int .i64 x)) (.slice (some ⟨bv, ov, none⟩) t.v.length cv) 1 (t.v.set j x).length (ints (t.v.set j x)) [bv] := by
    rw [List.length_set, show ints (t.v.set j x) = (ints t.v).set j (.int .i64 x) from by simp [ints, List.map_set]]
    exact h1
  have h3 := h.ths.newV ht hp hq (Only.setCell W _) h2
  have hl : (M.ths.set k { t with v := t.v.set j x }).length = M.ths.length := List.length_set
  have hg : gm ≠ bv := fun e => h.d2.2 (e ▸ hbm)
  refine ⟨⟨?_, h.mem.far fun b hb e => h.d1 b hb (e ▸ hbm), ?_, ?_, ?_⟩, hbm⟩
  · show Bk _ gm #[mv, .slice (some ⟨bT, oT, none⟩) (M.ths.set k { t with v := t.v.set j x }).length c] 41
    rw [hl]
    exact h.box.far hg _
  · show OwnT _ (.slice (some ⟨bT, oT, none⟩) (M.ths.set k { t with v := t.v.set j x }).length c) _ vs qs [bT]
    rw [hl]
    exact h3
  · intro b hb
    rw [tblk_len (us := M.ths) hl]
    exact h.d1 b hb
  · rw [tblk_len (us := M.ths) hl]
    exact h.d2
/-- the counter of thread k is written -/
theorem MB.setPc (h : MB W gm bT oT c mv M vs qs bm) (ht : M.ths[k]? = some t) (x : Int) :
    MB (W.setCell ⟨bT, oT + k * 3, none⟩ (.int .i64 x)) gm bT oT c mv ⟨M.mem, M.ths.set k { t with pc := x }⟩ vs qs bm := by
  have h3 := (h.ths.pc ht x).1
  have hl : (M.ths.set k { t with pc := x }).length = M.ths.length := List.length_set
  have hbm : bT ∈ tblk M.ths vs qs bT := by simp [tblk]
  have hg : gm ≠ bT := fun e => h.d2.2 (e ▸ hbm)
  refine ⟨?_, h.mem.far fun b hb e => h.d1 b hb (e ▸ hbm), ?_, ?_, ?_⟩
  · show Bk _ gm #[mv, .slice (some ⟨bT, oT, none⟩) (M.ths.set k { t with pc := x }).length c] 41
    rw [hl]
    exact h.box.far hg _
  · show OwnT _ (.slice (some ⟨bT, oT, none⟩) (M.ths.set k { t with pc := x }).length c) _ vs qs [bT]
    rw [hl]
    exact h3
  · intro b hb
    rw [tblk_len (us := M.ths) hl]
    exact h.d1 b hb
  · rw [tblk_len (us := M.ths) hl]
    exact h.d2
/-- a cell of the memory is written -/
theorem MB.setM {bv ov n cv : Nat} (h : MB W gm bT oT c (.slice (some ⟨bv, ov, none⟩) n cv) M vs qs bm) (j : Nat) (hj : j < M.mem.length) (x : Int) :
    MB (W.setCell ⟨bv, ov + j, none⟩ (.int .i64 x)) gm bT oT c (.slice (some ⟨bv, ov, none⟩) n cv) ⟨M.mem.set j x, M.ths⟩ vs qs bm ∧ bv ∈ bm := by
  have hm := h.mem
  obtain ⟨b', o', c', he, rfl, -, -, -, -⟩ := hm.open_ (by omega)
  injection he with he1 hn he3
  injection he1 with he1
  injection he1 with he1 he2
  subst he1 he2 he3 hn
  have d1 := h.d1
  have d2 := h.d2
  have hbx := h.box
  have hth := h.ths
  have h1 := Own.set_ hm j (.int .i64 x)
  have h2 : Own (W.setCell ⟨bv, ov + j, none⟩ (.int .i64 x)) (.slice (some ⟨bv, ov, none⟩) M.mem.length cv) 1 (M.mem.set j x).length (ints (M.mem.set j x)) [bv] := by
    rw [List.length_set, show ints (M.mem.set j x) = (ints M.mem).set j (.int .i64 x) from by simp [ints, List.map_set]]
    exact h1
  have hne : gm ≠ bv := fun e => d2.1 (by simp [e])
  have hT := d1 bv (by simp)
  refine ⟨⟨hbx.far hne _, h2, ⟨hth.lv, hth.lq, hth.own.far fun b hb e => hT ?_⟩, d1, d2⟩, by simp⟩
  rw [tblk_row] at hb
  rwa [e] at hb
/-- thread k gets another buffer, of new blocks or of its old one's -/
theorem MB.putF (h : MB W gm bT oT c mv M vs qs bm) (ht : M.ths[k]? = some t) (hp : vs[k]? = some (a, f)) (hq : qs[k]? = some (qa, qb)) {f' : Value} {qb' : List Nat} {x : List P2} (hn : Own W f' 2 x.length (flc2 x) qb')
    (hd : ∀ y ∈ qb', y ∈ qb ∨ y ∉ gm :: (bm ++ tblk M.ths vs qs bT)) :
    MB (W.setCell ⟨bT, oT + k * 3 + 2, none⟩ f') gm bT oT c mv ⟨M.mem, M.ths.set k { t with f := x }⟩ (vs.set k (a, f')) (qs.set k (qa, qb')) bm ∧
      ∀ b ∈ tblk (M.ths.set k { t with f := x }) (vs.set k (a, f')) (qs.set k (qa, qb')) bT, b ∈ tblk M.ths vs qs bT ∨ b ∈ qb' := by
  have h3 := h.ths.putF ht hp hq hn (fun y hy => by
    rcases hd y hy with h1 | h1
    · exact .inl h1
    · refine .inr fun hm => h1 ?_
      rw [tblk_row] at hm
      simp [hm])
  have hl : (M.ths.set k { t with f := x }).length = M.ths.length := List.length_set
  have hbm : bT ∈ tblk M.ths vs qs bT := by simp [tblk]
  have hg : gm ≠ bT := fun e => h.d2.2 (e ▸ hbm)
  have hin : ∀ b ∈ tblk (M.ths.set k { t with f := x }) (vs.set k (a, f')) (qs.set k (qa, qb')) bT, b ∈ tblk M.ths vs qs bT ∨ b ∈ qb' := by
    intro b hb
    simp only [tblk, List.mem_cons] at hb ⊢
    rcases hb with hb | hb
    · exact .inl (.inl hb)
    · rw [← thRows_f f' x qb' ht hp hq] at hb
      rcases blks_set (thRows_at ht hp hq).2 b hb with h1 | h1
      · exact .inr h1
      · exact .inl (.inr h1)
  have hqb := (mem_tblk_v (bT := bT) ht hp hq).2
  refine ⟨⟨?_, h.mem.far fun b hb e => h.d1 b hb (e ▸ hbm), ?_, ?_, h.d2.1, ?_⟩, hin⟩
  · show Bk _ gm #[mv, .slice (some ⟨bT, oT, none⟩) (M.ths.set k { t with f := x }).length c] 41
    rw [hl]
    exact h.box.far hg _
  · show OwnT _ (.slice (some ⟨bT, oT, none⟩) (M.ths.set k { t with f := x }).length c) _ _ _ [bT]
    rw [hl]
    exact h3
  · intro b hb hm
    rcases hin b hm with h1 | h1
    · exact h.d1 b hb h1
    · rcases hd b h1 with h2 | h2
      · exact h.d1 b hb (hqb b h2)
      · exact h2 (by simp [hb])
  · intro hm
    rcases hin gm hm with h1 | h1
    · exact h.d2.2 h1
    · rcases hd gm h1 with h2 | h2
      · exact h.d2.2 (hqb gm h2)
      · exact h2 (by simp)
/-- the machine gets another memory, of new blocks -/
theorem MB.putM (h : MB W gm bT oT c mv M vs qs bm) {mv' : Value} {bm' : List Nat} {x : List Int} (hn : Own W mv' 1 x.length (ints x) bm') (hd : ∀ y ∈ bm', y ∉ gm :: (bm ++ tblk M.ths vs qs bT)) :
    MB (W.setCell ⟨gm, 0, none⟩ mv') gm bT oT c mv' ⟨x, M.ths⟩ vs qs bm' := by
  refine ⟨by simpa using h.box.set_ 0 mv', hn.far fun b hb e => hd b hb (by simp [e]), ⟨h.ths.lv, h.ths.lq, h.ths.own.far fun b hb e => h.d2.2 ?_⟩, fun b hb hm => hd b hb (by simp [hm]), fun hm => hd gm hm (by simp), h.d2.2⟩
  rw [tblk_row] at hb
  exact e ▸ hb
end
end Go.Proofs.Ytiflooopfpcelaa
