/- What spec.l04Do may write, and what then is known. Plain lemmas, no condition. -/
import Derived.Test.YtiflooopfpcelaaGreatC20
import Derived.Test.YtiflooopfpcelaaGreatV5
import Derived.Test.YtiflooopfpcelaaGreatC13
namespace Go.Proofs.YtiflooopfpcelaaGreat
set_option maxRecDepth 20000
set_option linter.unusedSimpArgs false
set_option linter.unusedVariables false
open Go.ChangeShapes Go.WideShapes Go.ChangeAt Go.RowKit
set_option linter.unusedVariables false
section
variable {W : World} {gm bT oT c : Nat} {mv : Value} {M : Ma} {vs : List (Value × Value)} {qs : List (List Nat × List Nat)} {bm : List Nat} {k : Nat} {t : Th} {a f : Value} {qa qb : List Nat}
theorem MB.far {b i : Nat} {u : Value} (h : MB W gm bT oT c mv M vs qs bm) (hd : b ∉ gm :: (bm ++ tblk M.ths vs qs bT)) : MB (W.setCell ⟨b, i, none⟩ u) gm bT oT c mv M vs qs bm :=
  h.of_blocks (Only.setCell W u).size fun y hy => (Only.setCell (i := i) W u).block y (h.lt y hy) (by simp only [List.mem_singleton]; rintro rfl; exact hd hy)
theorem MB.apart {bv ov lv cv : Nat} (h : MB W gm bT oT c mv M vs qs bm) (ht : M.ths[k]? = some t) (hp : vs[k]? = some (.slice (some ⟨bv, ov, none⟩) lv cv, f)) (hq : qs[k]? = some (qa, qb)) (hn : 0 < t.v.length) : ∀ y ∈ qb, y ≠ bv := by
  obtain ⟨b', o', c', he, hqa, -, -, -, -⟩ := (h.ths.vals ht hp hq).open_ hn
  injection he with he1
  injection he1 with he1
  injection he1 with he1
  subst he1
  simp only at hqa
  subst hqa
  obtain ⟨r1, r2⟩ := thRows_at ht hp hq
  intro y hy e
  exact h.ths.own.tail.other r2 r1 (by omega) y hy (by simp [vRow, e])
/-- the slice of a thread's values is written anew as it is -/
theorem MB.sameV (h : MB W gm bT oT c mv M vs qs bm) (ht : M.ths[k]? = some t) (hp : vs[k]? = some (a, f)) : MB (W.setCell ⟨bT, oT + k * 3 + 1, none⟩ a) gm bT oT c mv M vs qs bm := by
  have hbm : bT ∈ tblk M.ths vs qs bT := by simp [tblk]
  have hg : gm ≠ bT := fun e => h.d2.2 (e ▸ hbm)
  have h1 := Own.set_ h.ths.row (k * 3 + 1) a
  rw [thCs_v a ht hp, ← Nat.add_assoc, show vs.set k (a, (a, f).2) = vs from set_same hp] at h1
  have h2 := h.ths.own.set_ (i := 0) (w' := W.setCell ⟨bT, oT + k * 3 + 1, none⟩ a) (r' := ⟨_, 3, M.ths.length, thCs M.ths vs, [bT]⟩) rfl (Only.setCell W _) h1 (fun y hy => .inl hy)
  rw [List.set_cons_zero] at h2
  exact ⟨h.box.far hg _, h.mem.far fun b hb e => h.d1 b hb (e ▸ hbm), ⟨h.ths.lv, h.ths.lq, h2⟩, h.d1, h.d2⟩
/-- a thread's row is written whole -/
theorem MB.putRow (h : MB W gm bT oT c mv M vs qs bm) (ht : M.ths[k]? = some t) (hp : vs[k]? = some (a, f)) (hq : qs[k]? = some (qa, qb)) (pc : Int) {f' : Value} {qb' : List Nat} {x : List P2} (hn : Own W f' 2 x.length (flc2 x) qb')
    (hd : ∀ y ∈ qb', y ∈ qb ∨ y ∉ gm :: (bm ++ tblk M.ths vs qs bT)) :
    MB (((W.setCell ⟨bT, oT + k * 3, none⟩ (.int .i64 pc)).setCell ⟨bT, oT + k * 3 + 1, none⟩ a).setCell ⟨bT, oT + k * 3 + 2, none⟩ f') gm bT oT c mv ⟨M.mem, M.ths.set k ⟨pc, t.v, x⟩⟩ (vs.set k (a, f')) (qs.set k (qa, qb')) bm ∧
      ∀ b ∈ tblk (M.ths.set k ⟨pc, t.v, x⟩) (vs.set k (a, f')) (qs.set k (qa, qb')) bT, b ∈ tblk M.ths vs qs bT ∨ b ∈ qb' := by
  have hk := (List.getElem?_eq_some_iff.1 ht).1
  have h1 := h.setPc ht pc
  have ht1 : (M.ths.set k { t with pc := pc })[k]? = some { t with pc := pc } := List.getElem?_set_self hk
  have h2 := h1.sameV ht1 hp
  have hbT : ∀ y ∈ qb', y ≠ bT := fun y hy e => by
    rcases hd y hy with h3 | h3
    · obtain ⟨-, r2⟩ := thRows_at ht hp hq
      have := h.ths.own.apart bT (by simp)
      exact this (e ▸ mem_blks_at r2 y h3)
    · exact h3 (by simp [tblk, e])
  have hn1 := (hn.far (b := bT) (i := oT + k * 3) (u := .int .i64 pc) hbT).far (b := bT) (i := oT + k * 3 + 1) (u := a) hbT
  have hl : tblk (M.ths.set k { t with pc := pc }) vs qs bT = tblk M.ths vs qs bT := tblk_len (by simp)
  have h3 := h2.putF ht1 hp hq hn1 (by rw [hl]; exact hd)
  simp only [List.set_set] at h3
  refine ⟨h3.1, fun b hb => ?_⟩
  rw [← hl]
  exact h3.2 b hb
end
theorem Own.tail2 {w : World} {b o c : Nat} {x : P2} {xs : List P2} (h : Own w (.slice (some ⟨b, o, none⟩) (x :: xs).length c) 2 (x :: xs).length (flc2 (x :: xs)) [b]) (hm : c ≤ 9223372036854775807) :
    ∃ qb', Own w (.slice (if c = 1 then some ⟨b, o, none⟩ else some ⟨b, o + 2, none⟩) xs.length (c - 1)) 2 xs.length (flc2 xs) qb' ∧ ∀ y ∈ qb', y = b := by
  obtain ⟨A, c', he, hl, hc, hmm, hr⟩ := h
  injection he with e1 _ e3
  subst e1 e3
  by_cases h0 : xs.length = 0
  · exact ⟨[], ⟨_, c - 1, rfl, by rw [flc2_len], by omega, by unfold maxLen; omega, .inl ⟨h0, rfl⟩⟩, by simp⟩
  · rcases hr with ⟨h1, _⟩ | ⟨_, b', o', hA, hb', hlt, hat⟩
    · simp at h1
    · injection hA with hA
      injection hA with e1 e2
      subst e1 e2
      have hc1 : c ≠ 1 := by simp at hc; omega
      rw [if_neg hc1]
      refine ⟨[b], ⟨_, c - 1, rfl, by rw [flc2_len], by simp at hc; omega, by unfold maxLen; omega, .inr ⟨by omega, b, o + 2, rfl, rfl, hlt, fun j u hu => ?_⟩⟩, by simp⟩
      have e : flc2 (x :: xs) = p2C x ++ flc2 xs := by simp [flc2, fl2, p2C, ints, P2.l]
      have := hat (2 + j) u (by rw [e, List.getElem?_append_right (by simp [p2C])]; simpa [p2C] using hu)
      rwa [← Nat.add_assoc] at this
theorem do_end {w W : World} {gm bT oT cT bc oc cc k n gr : Nat} {M1 : Ma} {t1 : Th} {vs : List (Value × Value)} {qs : List (List Nat × List Nat)} {a f f' : Value} {qa qb qb' : List Nat} {x : List P2} (pc : Int)
    (hM : MB W gm bT oT cT (.slice (some ⟨bc, oc, none⟩) n cc) M1 vs qs [bc]) (ht : M1.ths[k]? = some t1) (hp : vs[k]? = some (a, f)) (hq : qs[k]? = some (qa, qb)) (hn : Own W f' 2 x.length (flc2 x) qb')
    (hd : ∀ y ∈ qb', y ∈ qb ∨ y ∉ gm :: ([bc] ++ tblk M1.ths vs qs bT)) (hlo : ∀ b ∈ [bc] ++ tblk M1.ths vs qs bT, gr < b) (hlo' : ∀ y ∈ qb', gr < y) (kr : Bk W gr #[.slice none 0 0, .slice none 0 0] 38)
    (hB : Below w.heap.size w W) (hgr : w.heap.size ≤ gr) :
    Bk (((W.setCell ⟨bT, oT + k * 3, none⟩ (.int .i64 pc)).setCell ⟨bT, oT + k * 3 + 1, none⟩ a).setCell ⟨bT, oT + k * 3 + 2, none⟩ f') gm #[.slice (some ⟨bc, oc, none⟩) n cc, .slice (some ⟨bT, oT, none⟩) M1.ths.length cT] 38 ∧
    Bk (((W.setCell ⟨bT, oT + k * 3, none⟩ (.int .i64 pc)).setCell ⟨bT, oT + k * 3 + 1, none⟩ a).setCell ⟨bT, oT + k * 3 + 2, none⟩ f') gr #[.slice none 0 0, .slice none 0 0] 38 ∧
    ∃ bs, OwnMa (((((W.setCell ⟨bT, oT + k * 3, none⟩ (.int .i64 pc)).setCell ⟨bT, oT + k * 3 + 1, none⟩ a).setCell ⟨bT, oT + k * 3 + 2, none⟩ f').setCell ⟨gr, 0, none⟩ (.slice (some ⟨bc, oc, none⟩) n cc)).setCell ⟨gr, 1, none⟩ (.slice (some ⟨bT, oT, none⟩) M1.ths.length cT)) (.slice (some ⟨bc, oc, none⟩) n cc) (.slice (some ⟨bT, oT, none⟩) M1.ths.length cT) ⟨M1.mem, M1.ths.set k ⟨pc, t1.v, x⟩⟩ bs ∧
      (∀ b ∈ bs, w.heap.size ≤ b) ∧ Below w.heap.size w (((((W.setCell ⟨bT, oT + k * 3, none⟩ (.int .i64 pc)).setCell ⟨bT, oT + k * 3 + 1, none⟩ a).setCell ⟨bT, oT + k * 3 + 2, none⟩ f').setCell ⟨gr, 0, none⟩ (.slice (some ⟨bc, oc, none⟩) n cc)).setCell ⟨gr, 1, none⟩ (.slice (some ⟨bT, oT, none⟩) M1.ths.length cT)) := by
  obtain ⟨h1, h2⟩ := hM.putRow ht hp hq pc hn hd
  have hbT := hlo bT (by simp [tblk])
  have hne : gr ≠ bT := by omega
  have kr' := ((kr.far (p := ⟨bT, oT + k * 3, none⟩) hne (.int .i64 pc)).far (p := ⟨bT, oT + k * 3 + 1, none⟩) hne a).far (p := ⟨bT, oT + k * 3 + 2, none⟩) hne f'
  have hbox := h1.box
  simp only [List.length_set] at hbox
  have hB' := ((hB.setCell (p := ⟨bT, oT + k * 3, none⟩) (by show w.heap.size ≤ bT; omega) (.int .i64 pc)).setCell (p := ⟨bT, oT + k * 3 + 1, none⟩) (by show w.heap.size ≤ bT; omega) a).setCell (p := ⟨bT, oT + k * 3 + 2, none⟩) (by show w.heap.size ≤ bT; omega) f'
  have hall : ∀ b ∈ [bc] ++ tblk (M1.ths.set k ⟨pc, t1.v, x⟩) (vs.set k (a, f')) (qs.set k (qa, qb')) bT, gr < b := fun b hb => by
    rcases List.mem_append.1 hb with h | h
    · exact hlo b (List.mem_append.2 (.inl h))
    · rcases h2 b h with h | h
      · exact hlo b (List.mem_append.2 (.inr h))
      · exact hlo' b h
  have hth := h1.ths
  simp only [List.length_set] at hth
  have hown : OwnMa (((W.setCell ⟨bT, oT + k * 3, none⟩ (.int .i64 pc)).setCell ⟨bT, oT + k * 3 + 1, none⟩ a).setCell ⟨bT, oT + k * 3 + 2, none⟩ f') (.slice (some ⟨bc, oc, none⟩) n cc) (.slice (some ⟨bT, oT, none⟩) M1.ths.length cT) ⟨M1.mem, M1.ths.set k ⟨pc, t1.v, x⟩⟩ ([bc] ++ tblk (M1.ths.set k ⟨pc, t1.v, x⟩) (vs.set k (a, f')) (qs.set k (qa, qb')) bT) := by
    have hT := hth.toTS
    rw [tblk_row] at hT
    exact OwnMa.mk h1.mem hT h1.d1
  refine ⟨hbox, kr', _, (hown.far fun b hb => by have := hall b hb; omega).far fun b hb => by have := hall b hb; omega, fun b hb => by have := hall b hb; omega, (hB'.setCell (by exact hgr) _).setCell (by exact hgr) _⟩
/-- behind the effect of an instruction: what the thread's copy and the machine hold -/
def SwEnd (w : World) (gm gr gv bT oT cT bc oc cc nM nT bv ov lv cv k : Nat) (d : Bool) (vs : List (Value × Value)) (qs : List (List Nat × List Nat)) (res : Ma) (W : World) : Prop :=
  ∃ (M1 : Ma) (t1 : Th) (pc : Int) (A : Option Addr) (n c : Nat) (f : Value) (qa qb qb' : List Nat) (x : List P2), MB W gm bT oT cT (.slice (some ⟨bc, oc, none⟩) nM cc) M1 vs qs [bc] ∧ M1.ths[k]? = some t1 ∧ vs[k]? = some (.slice (some ⟨bv, ov, none⟩) lv cv, f) ∧ qs[k]? = some (qa, qb) ∧
    M1.ths.length = nT ∧ M1.mem.length = nM ∧ Bk W (gm + 1) #[.int .i64 pc, .slice (some ⟨bv, ov, none⟩) lv cv, .slice A n c] 73 ∧ Own W (.slice A n c) 2 x.length (flc2 x) qb' ∧ (∀ y ∈ qb', y ∈ qb ∨ y ∉ gm :: ([bc] ++ tblk M1.ths vs qs bT)) ∧ (∀ y ∈ qb', gr < y) ∧
    (∀ b ∈ [bc] ++ tblk M1.ths vs qs bT, gr < b) ∧ Bk W gr #[.slice none 0 0, .slice none 0 0] 38 ∧ Bk W gv #[.int .i64 k, .bool d] 46 ∧ Below w.heap.size w W ∧ res = ⟨M1.mem, M1.ths.set k ⟨pc, t1.v, x⟩⟩ ∧ gr < gm
/-- the same, told apart -/
structure Sw (w : World) (gm gr gv bT oT cT bc oc cc bv ov lv cv k : Nat) (d : Bool) (vs : List (Value × Value)) (qs : List (List Nat × List Nat)) (M1 : Ma) (t1 : Th) (pc : Int) (f f' : Value) (x : List P2) (qa qb qb' : List Nat) (W : World) : Prop where
  mb : MB W gm bT oT cT (.slice (some ⟨bc, oc, none⟩) M1.mem.length cc) M1 vs qs [bc]
  ht : M1.ths[k]? = some t1
  hp : vs[k]? = some (.slice (some ⟨bv, ov, none⟩) lv cv, f)
  hq : qs[k]? = some (qa, qb)
  th : Bk W (gm + 1) #[.int .i64 pc, .slice (some ⟨bv, ov, none⟩) lv cv, f'] 73
  own : Own W f' 2 x.length (flc2 x) qb'
  ap : ∀ y ∈ qb', y ≠ bv ∧ y ≠ bc ∧ y ≠ gm + 1
  nw : ∀ y ∈ qb', y ∈ qb ∨ y ∉ gm :: ([bc] ++ tblk M1.ths vs qs bT)
  lo' : ∀ y ∈ qb', gr < y
  lo : ∀ b ∈ [bc] ++ tblk M1.ths vs qs bT, gr < b ∧ b ≠ gm + 1
  rs : Bk W gr #[.slice none 0 0, .slice none 0 0] 38
  mv : Bk W gv #[.int .i64 k, .bool d] 46
  lt : gr < gm ∧ gv < gr ∧ w.heap.size ≤ gr
  bl : Below w.heap.size w W
section
variable {w W : World} {gm gr gv bT oT cT bc oc cc bv ov lv cv k : Nat} {d : Bool} {vs : List (Value × Value)} {qs : List (List Nat × List Nat)} {M1 : Ma} {t1 : Th} {pc : Int} {f f' : Value} {x : List P2} {qa qb qb' : List Nat}
theorem Sw.toEnd {nT nM : Nat} {res : Ma} (h : Sw w gm gr gv bT oT cT bc oc cc bv ov lv cv k d vs qs M1 t1 pc f f' x qa qb qb' W) (hT : M1.ths.length = nT) (hM : M1.mem.length = nM) (hr : res = ⟨M1.mem, M1.ths.set k ⟨pc, t1.v, x⟩⟩) :
    SwEnd w gm gr gv bT oT cT bc oc cc nM nT bv ov lv cv k d vs qs res W := by
  subst hT hM
  obtain ⟨A, c, rfl, -, -⟩ := h.own.slice
  exact ⟨M1, t1, pc, A, _, c, f, qa, qb, qb', x, h.mb, h.ht, h.hp, h.hq, rfl, rfl, h.th, h.own, h.nw, h.lo', fun b hb => (h.lo b hb).1, h.rs, h.mv, h.bl, hr, h.lt.1⟩
theorem Sw.bvm (h : Sw w gm gr gv bT oT cT bc oc cc bv ov lv cv k d vs qs M1 t1 pc f f' x qa qb qb' W) (hn : 0 < t1.v.length) : bv ∈ tblk M1.ths vs qs bT ∧ bv ∈ qa := by
  obtain ⟨b', o', c', he, hqa, -, -, -, -⟩ := (h.mb.ths.vals h.ht h.hp h.hq).open_ hn
  injection he with he1
  injection he1 with he1
  injection he1 with he1
  subst he1 hqa
  exact ⟨(mem_tblk_v (bT := bT) h.ht h.hp h.hq).1 _ (by simp), by simp⟩
theorem Sw.setV (h : Sw w gm gr gv bT oT cT bc oc cc bv ov lv cv k d vs qs M1 t1 pc f f' x qa qb qb' W) (j : Nat) (hj : j < t1.v.length) (y : Int) :
    Sw w gm gr gv bT oT cT bc oc cc bv ov lv cv k d vs qs ⟨M1.mem, M1.ths.set k { t1 with v := t1.v.set j y }⟩ { t1 with v := t1.v.set j y } pc f f' x qa qb qb' (W.setCell ⟨bv, ov + j, none⟩ (.int .i64 y)) := by
  obtain ⟨h1, hb⟩ := h.mb.setV h.ht h.hp h.hq j hj y
  have hk := (List.getElem?_eq_some_iff.1 h.ht).1
  have hl : tblk (M1.ths.set k { t1 with v := t1.v.set j y }) vs qs bT = tblk M1.ths vs qs bT := tblk_len (by simp)
  have hbl := h.lo bv (List.mem_append.2 (.inr hb))
  have hlt := h.lt
  refine ⟨h1, List.getElem?_set_self hk, h.hp, h.hq, h.th.far (p := ⟨bv, ov + j, none⟩) (by show gm + 1 ≠ bv; omega) _, h.own.far fun y hy => (h.ap y hy).1, h.ap, by rw [hl]; exact h.nw, h.lo', by rw [hl]; exact h.lo, h.rs.far (p := ⟨bv, ov + j, none⟩) (by show gr ≠ bv; omega) _, h.mv.far (p := ⟨bv, ov + j, none⟩) (by show gv ≠ bv; omega) _, h.lt, h.bl.setCell (p := ⟨bv, ov + j, none⟩) (by show w.heap.size ≤ bv; omega) _⟩
theorem Sw.setM (h : Sw w gm gr gv bT oT cT bc oc cc bv ov lv cv k d vs qs M1 t1 pc f f' x qa qb qb' W) (j : Nat) (hj : j < M1.mem.length) (y : Int) :
    Sw w gm gr gv bT oT cT bc oc cc bv ov lv cv k d vs qs ⟨M1.mem.set j y, M1.ths⟩ t1 pc f f' x qa qb qb' (W.setCell ⟨bc, oc + j, none⟩ (.int .i64 y)) := by
  obtain ⟨h1, -⟩ := h.mb.setM j hj y
  have hbl := h.lo bc (by simp)
  have hlt := h.lt
  have h1' : MB (W.setCell ⟨bc, oc + j, none⟩ (.int .i64 y)) gm bT oT cT (.slice (some ⟨bc, oc, none⟩) (M1.mem.set j y).length cc) ⟨M1.mem.set j y, M1.ths⟩ vs qs [bc] := by
    rw [List.length_set]
    exact h1
  refine ⟨h1', h.ht, h.hp, h.hq, h.th.far (p := ⟨bc, oc + j, none⟩) (by show gm + 1 ≠ bc; omega) _, h.own.far fun y hy => (h.ap y hy).2.1, h.ap, h.nw, h.lo', h.lo, h.rs.far (p := ⟨bc, oc + j, none⟩) (by show gr ≠ bc; omega) _, h.mv.far (p := ⟨bc, oc + j, none⟩) (by show gv ≠ bc; omega) _, h.lt, h.bl.setCell (p := ⟨bc, oc + j, none⟩) (by show w.heap.size ≤ bc; omega) _⟩
theorem Sw.setT (h : Sw w gm gr gv bT oT cT bc oc cc bv ov lv cv k d vs qs M1 t1 pc f f' x qa qb qb' W) (j : Nat) (u : Value) (pc' : Int) (f'' : Value) (x' : List P2) (q' : List Nat) (hu : #[Value.int .i64 pc, .slice (some ⟨bv, ov, none⟩) lv cv, f'].setIfInBounds j u = #[Value.int .i64 pc', .slice (some ⟨bv, ov, none⟩) lv cv, f''])
    (hO : Own W f'' 2 x'.length (flc2 x') q') (ha : ∀ y ∈ q', y ≠ bv ∧ y ≠ bc ∧ y ≠ gm + 1) (hn : ∀ y ∈ q', y ∈ qb ∨ y ∉ gm :: ([bc] ++ tblk M1.ths vs qs bT)) (hlo : ∀ y ∈ q', gr < y) :
    Sw w gm gr gv bT oT cT bc oc cc bv ov lv cv k d vs qs M1 t1 pc' f f'' x' qa qb q' (W.setCell ⟨gm + 1, j, none⟩ u) := by
  have hlt := h.lt
  have h2 := h.th.set_ j u
  rw [hu] at h2
  refine ⟨h.mb.far fun hm => ?_, h.ht, h.hp, h.hq, h2, hO.far fun y hy => (ha y hy).2.2, ha, hn, hlo, h.lo, h.rs.far (p := ⟨gm + 1, j, none⟩) (by show gr ≠ gm + 1; omega) _, h.mv.far (p := ⟨gm + 1, j, none⟩) (by show gv ≠ gm + 1; omega) _, h.lt, h.bl.setCell (p := ⟨gm + 1, j, none⟩) (by show w.heap.size ≤ gm + 1; omega) _⟩
  rcases List.mem_cons.1 hm with h3 | h3
  · omega
  · exact (h.lo _ h3).2 rfl
theorem Sw.setPc (h : Sw w gm gr gv bT oT cT bc oc cc bv ov lv cv k d vs qs M1 t1 pc f f' x qa qb qb' W) (pc' : Int) :
    Sw w gm gr gv bT oT cT bc oc cc bv ov lv cv k d vs qs M1 t1 pc' f f' x qa qb qb' (W.setCell ⟨gm + 1, 0, none⟩ (.int .i64 pc')) :=
  h.setT 0 _ pc' f' x qb' rfl h.own h.ap h.nw h.lo'
theorem Sw.below {W' : World} (h : Sw w gm gr gv bT oT cT bc oc cc bv ov lv cv k d vs qs M1 t1 pc f f' x qa qb qb' W) (hb : Below W.heap.size W W') :
    Sw w gm gr gv bT oT cT bc oc cc bv ov lv cv k d vs qs M1 t1 pc f f' x qa qb qb' W' :=
  ⟨h.mb.below hb, h.ht, h.hp, h.hq, h.th.below hb h.th.lt, h.own.below hb, h.ap, h.nw, h.lo', h.lo, h.rs.below hb h.rs.lt, h.mv.below hb h.mv.lt, h.lt, h.bl.trans (hb.mono h.bl.size)⟩
theorem Own.same {w w' : World} {v : Value} {s n : Nat} {cs cs' : List Value} {bs bs' : List Nat} (h : Own w v s n cs bs) (h' : Own w' v s n cs' bs') : bs' = bs := by
  obtain ⟨A, c, rfl, _, _, _, ⟨h0, rfl⟩ | ⟨h0, b, o, rfl, rfl, _⟩⟩ := h
  · obtain ⟨A', c', he, _, _, _, ⟨_, rfl⟩ | ⟨h1, _⟩⟩ := h'
    · rfl
    · omega
  · obtain ⟨A', c', he, _, _, _, ⟨h1, _⟩ | ⟨h1, b', o', rfl, rfl, _⟩⟩ := h'
    · omega
    · injection he with he
      injection he with he
      injection he with he
      rw [he]
theorem Sw.append {w7 : World} {base : Nat} {f7 : Value} {y : P2} {N : Nat} (h : Sw w gm gr gv bT oT cT bc oc cc bv ov lv cv k d vs qs M1 t1 pc f f t1.f qa qb qb W) (hg : W.grownBy w7 f.ownBlock)
    (ho : ∀ g, f.ownBlock = some g → (g ∈ qb ∨ g ∉ [bc] ++ tblk M1.ths vs qs bT) ∧ g ≠ gm ∧ g ≠ gm + 1 ∧ gr < g) (hold : w7.ownsRow base 106 2 f t1.f.length (flc2 t1.f))
    (hnew : w7.ownsRow base 106 2 f7 (t1.f ++ [y]).length (flc2 (t1.f ++ [y]))) (hat : f7.ownBlock = f.ownBlock ∨ f7.ownBlock = some N) (hN : W.heap.size ≤ N) (hv : 0 < t1.v.length) :
    Sw w gm gr gv bT oT cT bc oc cc bv ov lv cv k d vs qs M1 t1 pc f f t1.f qa qb qb w7 ∧ ∃ q7, Sw w gm gr gv bT oT cT bc oc cc bv ov lv cv k d vs qs M1 t1 pc f f7 (t1.f ++ [y]) qa qb q7 (w7.setCell ⟨gm + 1, 2, none⟩ f7) := by
  have hlt := h.lt
  obtain ⟨hq1, hq2⟩ := mem_tblk_v (bT := bT) h.ht h.hp h.hq
  have hbvm := h.bvm hv
  obtain ⟨bs, hbs, -⟩ := Own.of_owns hold
  have hbe : bs = qb := Own.same h.own hbs
  subst hbe
  have hOnly : Only bs W w7 ∨ ∀ b ∈ gm :: ([bc] ++ tblk M1.ths vs qs bT), w7.heap[b]? = W.heap[b]? := by
    by_cases hx : ∃ g, f.ownBlock = some g ∧ g ∉ bs
    · obtain ⟨g, hg1, hg2⟩ := hx
      obtain ⟨h1, h2, h3, h4⟩ := ho g hg1
      have h5 : g ∉ [bc] ++ tblk M1.ths vs qs bT := h1.resolve_left hg2
      refine .inr fun b hb => hg.block b (h.mb.lt b hb) fun e => ?_
      rw [hg1] at e
      injection e with e
      subst e
      rcases List.mem_cons.1 hb with h6 | h6
      · exact h2 h6
      · exact h5 h6
    · refine .inl ⟨hg.os, hg.tape, hg.output, hg.size, fun i hi hn => hg.block i hi fun e => hx ⟨i, e.symm, hn⟩⟩
  have hM7 : MB w7 gm bT oT cT (.slice (some ⟨bc, oc, none⟩) M1.mem.length cc) M1 vs qs [bc] := by
    rcases hOnly with h1 | h1
    · have h2 := h.mb.ths.newF h.ht h.hp h.hq h1 hbs
      have h3 : (M1.ths.set k { t1 with f := t1.f }) = M1.ths := set_same h.ht
      rw [h3] at h2
      refine ⟨(h1.block gm h.mb.box.lt fun hm => h.mb.d2.2 (hq2 _ hm)).trans h.mb.box, h.mb.mem.of_blocks h1.size fun b hb => h1.block b (h.mb.mem.lt b hb) fun hm => h.mb.d1 b hb (hq2 _ hm), h2, h.mb.d1, h.mb.d2⟩
    · exact h.mb.of_blocks hg.size h1
  have far : ∀ (g : Nat) ds t', g ≠ gm ∨ True → Bk W g ds t' → (∀ q, f.ownBlock = some q → g ≠ q) → Bk w7 g ds t' := fun g ds t' _ hb hn => hb.grown hg hn
  have hS : Sw w gm gr gv bT oT cT bc oc cc bv ov lv cv k d vs qs M1 t1 pc f f t1.f qa bs bs w7 :=
    ⟨hM7, h.ht, h.hp, h.hq, h.th.grown hg fun q hq => Ne.symm (ho q hq).2.2.1, hbs, h.ap, h.nw, h.lo', h.lo, h.rs.grown hg fun q hq => by have := (ho q hq).2.2.2; omega, h.mv.grown hg fun q hq => by have := (ho q hq).2.2.2; omega, h.lt,
      h.bl.grown hg h.bl.size fun q hq => by have := (ho q hq).2.2.2; omega⟩
  obtain ⟨q7, hO7, -⟩ := Own.of_owns hnew
  have hq7 : ∀ z ∈ q7, (f.ownBlock = some z) ∨ z = N := by
    intro z hz
    obtain ⟨A, c, he, -, -, -, ⟨-, rfl⟩ | ⟨-, b, o, rfl, rfl, -⟩⟩ := hO7
    · simp at hz
    · rw [he] at hat
      have hzb : z = b := by simpa using hz
      rcases hat with h1 | h1
      · exact .inl (h1.symm.trans (by rw [hzb]; rfl))
      · injection h1 with h1
        exact .inr (hzb.trans h1)
  have hL := h.mb.lt
  have hthl := h.th.lt
  have hrl := h.rs.lt
  refine ⟨hS, q7, hS.setT 2 f7 pc f7 _ q7 rfl hO7 (fun z hz => ?_) (fun z hz => ?_) (fun z hz => ?_)⟩
  · rcases hq7 z hz with h1 | h1
    · obtain ⟨h2, h3, h4, h5⟩ := ho z h1
      rcases h2 with h2 | h2
      · exact h.ap z h2
      · exact ⟨fun e => h2 (e ▸ List.mem_append.2 (.inr hbvm.1)), fun e => h2 (by simp [e]), h4⟩
    · have h2 := hL bv (by simp [hbvm.1])
      have h3 := hL bc (by simp)
      exact ⟨by omega, by omega, by omega⟩
  · rcases hq7 z hz with h1 | h1
    · obtain ⟨h2, h3, h4, h5⟩ := ho z h1
      rcases h2 with h2 | h2
      · exact .inl h2
      · refine .inr fun hm => ?_
        rcases List.mem_cons.1 hm with h6 | h6
        · exact h3 h6
        · exact h2 h6
    · exact .inr fun hm => by have := hL z hm; omega
  · rcases hq7 z hz with h1 | h1
    · exact (ho z h1).2.2.2
    · omega
end
theorem valsI {c : Int} {t : Th} {code : List Ins} (h : thOk c t code = true) : ∀ (j : Nat) x, t.v[j]? = some x → -1000000 ≤ x ∧ x ≤ 1000000 := by
  intro j x hx
  obtain ⟨-, -, -, hv, -⟩ := thOk_parts h
  rw [List.all_eq_true] at hv
  exact inB_true (hv x (List.mem_of_getElem? hx))
end Go.Proofs.YtiflooopfpcelaaGreat
