/- Machines: threads (a counter, values, a buffer) and a memory, as rows of memory. Plain lemmas, no condition. -/
import Derived.Test.YtgbgjlmkmlhefaaGreatDoorMany
namespace Go.Proofs.YtgbgjlmkmlhefaaGreatDoor
set_option maxRecDepth 20000
set_option linter.unusedSimpArgs false
set_option linter.unusedVariables false
open Go.RowKit
structure Th where
  pc : Int
  v : List Int
  f : List P2
deriving DecidableEq
structure Ma where
  mem : List Int
  ths : List Th
deriving DecidableEq
structure Mv where
  t : Int
  d : Bool
deriving DecidableEq
def thC (t : Th) (p : Value × Value) : List Value := [.int .i64 t.pc, p.1, p.2]
def thCs : List Th → List (Value × Value) → List Value
  | t :: ts, p :: ps => thC t p ++ thCs ts ps
  | _, _ => []
def vRow (t : Th) (p : Value × Value) (q : List Nat × List Nat) : Row := ⟨p.1, 1, t.v.length, ints t.v, q.1⟩
def fRow (t : Th) (p : Value × Value) (q : List Nat × List Nat) : Row := ⟨p.2, 2, t.f.length, flc2 t.f, q.2⟩
def thRows : List Th → List (Value × Value) → List (List Nat × List Nat) → List Row
  | t :: ts, p :: ps, q :: qs => vRow t p q :: fRow t p q :: thRows ts ps qs
  | _, _, _ => []
theorem thCs_len : ∀ {ts : List Th} {ps : List (Value × Value)}, ps.length = ts.length → (thCs ts ps).length = ts.length * 3
  | [], [], _ => rfl
  | [], _ :: _, h => by simp at h
  | _ :: _, [], h => by simp at h
  | t :: ts, p :: ps, h => by
    have := thCs_len (ts := ts) (ps := ps) (by simpa using h)
    simp only [thCs, thC, List.length_append, List.length_cons, List.length_nil, this]
    omega
theorem thCs_at : ∀ {ts : List Th} {ps : List (Value × Value)} {k : Nat} {t : Th} {p : Value × Value}, ts[k]? = some t → ps[k]? = some p → ∀ j < 3, (thCs ts ps)[k * 3 + j]? = (thC t p)[j]?
  | [], ps, k, t, p, h, _, j, hj => by simp at h
  | _ :: _, [], k, t, p, _, h, j, hj => by simp at h
  | x :: ts, y :: ps, 0, t, p, h, h', j, hj => by
    simp only [List.getElem?_cons_zero, Option.some.injEq] at h h'
    subst h h'
    rw [thCs, List.getElem?_append_left (by simp [thC]; omega)]
    simp
  | x :: ts, y :: ps, k + 1, t, p, h, h', j, hj => by
    rw [thCs, List.getElem?_append_right (by simp [thC]; omega)]
    have e : (k + 1) * 3 + j - (thC x y).length = k * 3 + j := by simp [thC]; omega
    rw [e]
    exact thCs_at (by simpa using h) (by simpa using h') j hj
theorem thCs_pc : ∀ {ts : List Th} {ps : List (Value × Value)} {k : Nat} {t : Th} {p : Value × Value} (c : Int), ts[k]? = some t → ps[k]? = some p → (thCs ts ps).set (k * 3) (.int .i64 c) = thCs (ts.set k { t with pc := c }) ps
  | [], ps, k, t, p, c, h, _ => by simp at h
  | _ :: _, [], k, t, p, c, _, h => by simp at h
  | x :: ts, y :: ps, 0, t, p, c, h, h' => by
    simp only [List.getElem?_cons_zero, Option.some.injEq] at h h'
    subst h h'
    simp [thCs, thC]
  | x :: ts, y :: ps, k + 1, t, p, c, h, h' => by
    rw [thCs, List.set_append, if_neg (by simp [thC]; omega), show (k + 1) * 3 - (thC x y).length = k * 3 from by simp [thC]; omega, thCs_pc c (by simpa using h) (by simpa using h'), List.set_cons_succ, thCs]
theorem thCs_v : ∀ {ts : List Th} {ps : List (Value × Value)} {k : Nat} {t : Th} {p : Value × Value} (c : Value), ts[k]? = some t → ps[k]? = some p → (thCs ts ps).set (k * 3 + 1) c = thCs ts (ps.set k (c, p.2))
  | [], ps, k, t, p, c, h, _ => by simp at h
  | _ :: _, [], k, t, p, c, _, h => by simp at h
  | x :: ts, y :: ps, 0, t, p, c, h, h' => by
    simp only [List.getElem?_cons_zero, Option.some.injEq] at h h'
    subst h h'
    simp [thCs, thC]
  | x :: ts, y :: ps, k + 1, t, p, c, h, h' => by
    rw [thCs, List.set_append, if_neg (by simp [thC]; omega), show (k + 1) * 3 + 1 - (thC x y).length = k * 3 + 1 from by simp [thC]; omega, thCs_v c (by simpa using h) (by simpa using h'), List.set_cons_succ, thCs]
theorem thCs_f : ∀ {ts : List Th} {ps : List (Value × Value)} {k : Nat} {t : Th} {p : Value × Value} (c : Value), ts[k]? = some t → ps[k]? = some p → (thCs ts ps).set (k * 3 + 2) c = thCs ts (ps.set k (p.1, c))
  | [], ps, k, t, p, c, h, _ => by simp at h
  | _ :: _, [], k, t, p, c, _, h => by simp at h
  | x :: ts, y :: ps, 0, t, p, c, h, h' => by
    simp only [List.getElem?_cons_zero, Option.some.injEq] at h h'
    subst h h'
    simp [thCs, thC]
  | x :: ts, y :: ps, k + 1, t, p, c, h, h' => by
    rw [thCs, List.set_append, if_neg (by simp [thC]; omega), show (k + 1) * 3 + 2 - (thC x y).length = k * 3 + 2 from by simp [thC]; omega, thCs_f c (by simpa using h) (by simpa using h'), List.set_cons_succ, thCs]
theorem thCs_cells : ∀ {ts ts' : List Th} {ps : List (Value × Value)}, ts.map Th.pc = ts'.map Th.pc → thCs ts ps = thCs ts' ps
  | [], [], _, _ => rfl
  | [], _ :: _, _, h => by simp at h
  | _ :: _, [], _, h => by simp at h
  | x :: ts, y :: ts', [], h => rfl
  | x :: ts, y :: ts', p :: ps, h => by
    simp only [List.map_cons, List.cons.injEq] at h
    rw [thCs, thCs, thCs_cells h.2, thC, thC, h.1]
theorem thCs_append : ∀ {ts us : List Th} {ps qs : List (Value × Value)}, ps.length = ts.length → thCs (ts ++ us) (ps ++ qs) = thCs ts ps ++ thCs us qs
  | [], us, [], qs, _ => rfl
  | [], _, _ :: _, _, h => by simp at h
  | _ :: _, _, [], _, h => by simp at h
  | x :: ts, us, p :: ps, qs, h => by
    rw [List.cons_append, List.cons_append, thCs, thCs_append (by simpa using h), thCs, List.append_assoc]
theorem thRows_append : ∀ {ts us : List Th} {ps qs : List (Value × Value)} {bs cs : List (List Nat × List Nat)}, ps.length = ts.length → bs.length = ts.length → thRows (ts ++ us) (ps ++ qs) (bs ++ cs) = thRows ts ps bs ++ thRows us qs cs
  | [], us, [], qs, [], cs, _, _ => rfl
  | [], _, _ :: _, _, _, _, h, _ => by simp at h
  | [], _, _, _, _ :: _, _, _, h => by simp at h
  | _ :: _, _, [], _, _, _, h, _ => by simp at h
  | _ :: _, _, _, _, [], _, _, h => by simp at h
  | x :: ts, us, p :: ps, qs, b :: bs, cs, h, h' => by
    rw [List.cons_append, List.cons_append, List.cons_append, thRows, thRows_append (by simpa using h) (by simpa using h'), thRows]
    rfl
section
variable {ts : List Th} {ps : List (Value × Value)} {qs : List (List Nat × List Nat)} {k : Nat} {t : Th} {p : Value × Value} {q : List Nat × List Nat}
theorem thRows_at : ∀ {ts : List Th} {ps : List (Value × Value)} {qs : List (List Nat × List Nat)} {k : Nat}, ts[k]? = some t → ps[k]? = some p → qs[k]? = some q → (thRows ts ps qs)[k * 2]? = some (vRow t p q) ∧ (thRows ts ps qs)[k * 2 + 1]? = some (fRow t p q)
  | [], _, _, k, h, _, _ => by simp at h
  | _ :: _, [], _, k, _, h, _ => by simp at h
  | _ :: _, _ :: _, [], k, _, _, h => by simp at h
  | x :: ts, y :: ps, z :: qs, 0, h, h', h'' => by
    simp only [List.getElem?_cons_zero, Option.some.injEq] at h h' h''
    subst h h' h''
    exact ⟨rfl, rfl⟩
  | x :: ts, y :: ps, z :: qs, k + 1, h, h', h'' => by
    have := thRows_at (k := k) (by simpa using h) (by simpa using h') (by simpa using h'')
    rw [thRows, show (k + 1) * 2 = k * 2 + 1 + 1 from by omega]
    simpa using this
theorem thRows_v : ∀ {ts : List Th} {ps : List (Value × Value)} {qs : List (List Nat × List Nat)} {k : Nat} (c : Value) (v : List Int) (b : List Nat), ts[k]? = some t → ps[k]? = some p → qs[k]? = some q →
    (thRows ts ps qs).set (k * 2) ⟨c, 1, v.length, ints v, b⟩ = thRows (ts.set k { t with v := v }) (ps.set k (c, p.2)) (qs.set k (b, q.2))
  | [], _, _, k, _, _, _, h, _, _ => by simp at h
  | _ :: _, [], _, k, _, _, _, _, h, _ => by simp at h
  | _ :: _, _ :: _, [], k, _, _, _, _, _, h => by simp at h
  | x :: ts, y :: ps, z :: qs, 0, c, v, b, h, h', h'' => by
    simp only [List.getElem?_cons_zero, Option.some.injEq] at h h' h''
    subst h h' h''
    rfl
  | x :: ts, y :: ps, z :: qs, k + 1, c, v, b, h, h', h'' => by
    have := thRows_v (k := k) c v b (by simpa using h) (by simpa using h') (by simpa using h'')
    rw [thRows, show (k + 1) * 2 = k * 2 + 1 + 1 from by omega]
    simp only [List.set_cons_succ, this, thRows]
theorem thRows_f : ∀ {ts : List Th} {ps : List (Value × Value)} {qs : List (List Nat × List Nat)} {k : Nat} (c : Value) (f : List P2) (b : List Nat), ts[k]? = some t → ps[k]? = some p → qs[k]? = some q →
    (thRows ts ps qs).set (k * 2 + 1) ⟨c, 2, f.length, flc2 f, b⟩ = thRows (ts.set k { t with f := f }) (ps.set k (p.1, c)) (qs.set k (q.1, b))
  | [], _, _, k, _, _, _, h, _, _ => by simp at h
  | _ :: _, [], _, k, _, _, _, _, h, _ => by simp at h
  | _ :: _, _ :: _, [], k, _, _, _, _, _, h => by simp at h
  | x :: ts, y :: ps, z :: qs, 0, c, v, b, h, h', h'' => by
    simp only [List.getElem?_cons_zero, Option.some.injEq] at h h' h''
    subst h h' h''
    rfl
  | x :: ts, y :: ps, z :: qs, k + 1, c, v, b, h, h', h'' => by
    have := thRows_f (k := k) c v b (by simpa using h) (by simpa using h') (by simpa using h'')
    rw [thRows, show (k + 1) * 2 + 1 = k * 2 + 1 + 1 + 1 from by omega]
    simp only [List.set_cons_succ, this, thRows]
theorem thRows_pcs : ∀ {ts us : List Th} {ps : List (Value × Value)} {qs : List (List Nat × List Nat)}, ts.map (fun t => (t.v, t.f)) = us.map (fun t => (t.v, t.f)) → thRows ts ps qs = thRows us ps qs
  | [], [], _, _, _ => rfl
  | [], _ :: _, _, _, h => by simp at h
  | _ :: _, [], _, _, h => by simp at h
  | x :: ts, y :: us, [], _, _ => rfl
  | x :: ts, y :: us, _ :: _, [], _ => rfl
  | x :: ts, y :: us, p :: ps, q :: qs, h => by
    simp only [List.map_cons, List.cons.injEq, Prod.mk.injEq] at h
    rw [thRows, thRows, thRows_pcs h.2, vRow, vRow, fRow, fRow, h.1.1, h.1.2]
theorem thRows_pc (c : Int) (h : ts[k]? = some t) : thRows (ts.set k { t with pc := c }) ps qs = thRows ts ps qs := by
  refine thRows_pcs (List.ext_getElem? fun i => ?_)
  rw [List.getElem?_map, List.getElem?_map, List.getElem?_set]
  split
  · rename_i he
    subst he
    rw [h]
    split
    · rfl
    · rename_i hl
      have := (List.getElem?_eq_some_iff.1 h).1
      omega
  · rfl
end
/-- the threads can be read (R: Rd, or RdA of what came in) -/
def RdTSW (R : World → Value → Nat → Nat → List Value → Prop) (w : World) (v : Value) (ths : List Th) : Prop :=
  ∃ vs : List (Value × Value), vs.length = ths.length ∧ R w v 3 ths.length (thCs ths vs) ∧ ∀ (k : Nat) t p, ths[k]? = some t → vs[k]? = some p → R w p.1 1 t.v.length (ints t.v) ∧ R w p.2 2 t.f.length (flc2 t.f)
def RdTS := RdTSW Rd
def RdATS := RdTSW RdA
structure RdMa (w : World) (mv tv : Value) (M : Ma) : Prop where
  mem : Rd w mv 1 M.mem.length (ints M.mem)
  ths : RdTS w tv M.ths
structure RdAMa (w : World) (mv tv : Value) (M : Ma) : Prop where
  mem : RdA w mv 1 M.mem.length (ints M.mem)
  ths : RdATS w tv M.ths
def OwnTS (w : World) (tv : Value) (ths : List Th) (bs : List Nat) : Prop :=
  ∃ vs qs bt, vs.length = ths.length ∧ qs.length = ths.length ∧ OwnR w (⟨tv, 3, ths.length, thCs ths vs, bt⟩ :: thRows ths vs qs) ∧ bs = blks (⟨tv, 3, ths.length, thCs ths vs, bt⟩ :: thRows ths vs qs)
def OwnMa (w : World) (mv tv : Value) (M : Ma) (bs : List Nat) : Prop :=
  ∃ bm bt, Own w mv 1 M.mem.length (ints M.mem) bm ∧ OwnTS w tv M.ths bt ∧ (∀ b ∈ bm, b ∉ bt) ∧ bs = bm ++ bt
section
variable {w w' : World} {mv tv : Value} {M : Ma} {ths : List Th} {bs ks : List Nat}
theorem RdTS.below (h : RdTS w tv ths) (hb : Below w.heap.size w w') : RdTS w' tv ths := by
  obtain ⟨vs, h1, h2, h3⟩ := h
  exact ⟨vs, h1, h2.below hb, fun k t p ht hp => ⟨(h3 k t p ht hp).1.below hb, (h3 k t p ht hp).2.below hb⟩⟩
theorem RdATS.below (h : RdATS w tv ths) (hb : Below w.heap.size w w') : RdATS w' tv ths := by
  obtain ⟨vs, h1, h2, h3⟩ := h
  exact ⟨vs, h1, h2.below hb, fun k t p ht hp => ⟨(h3 k t p ht hp).1.below hb, (h3 k t p ht hp).2.below hb⟩⟩
theorem RdMa.below (h : RdMa w mv tv M) (hb : Below w.heap.size w w') : RdMa w' mv tv M := ⟨h.mem.below hb, h.ths.below hb⟩
theorem RdAMa.below (h : RdAMa w mv tv M) (hb : Below w.heap.size w w') : RdAMa w' mv tv M := ⟨h.mem.below hb, h.ths.below hb⟩
theorem OwnTS.rd (h : OwnTS w tv ths bs) : RdTS w tv ths := by
  obtain ⟨vs, qs, bt, h1, h2, h3, -⟩ := h
  refine ⟨vs, h1, Own.rd h3.head, fun k t p ht hp => ?_⟩
  obtain ⟨q, hq⟩ : ∃ q, qs[k]? = some q := ⟨qs[k]'(by rw [h2]; exact (List.getElem?_eq_some_iff.1 ht).1), List.getElem?_eq_getElem _⟩
  obtain ⟨r1, r2⟩ := thRows_at ht hp hq
  exact ⟨Own.rd (h3.tail.at_ r1), Own.rd (h3.tail.at_ r2)⟩
theorem OwnTS.lt (h : OwnTS w tv ths bs) : ∀ b ∈ bs, b < w.heap.size := by
  obtain ⟨vs, qs, bt, h1, h2, h3, rfl⟩ := h
  exact h3.lt
theorem OwnTS.of_blocks (h : OwnTS w tv ths bs) (hs : w.heap.size ≤ w'.heap.size) (hk : ∀ b ∈ bs, w'.heap[b]? = w.heap[b]?) : OwnTS w' tv ths bs := by
  obtain ⟨vs, qs, bt, h1, h2, h3, rfl⟩ := h
  exact ⟨vs, qs, bt, h1, h2, h3.of_blocks hs hk, rfl⟩
theorem OwnTS.slice (h : OwnTS w tv ths bs) : ∃ A c, tv = .slice A ths.length c ∧ ths.length ≤ c ∧ c ≤ 9223372036854775807 := by
  obtain ⟨vs, qs, bt, h1, h2, h3, rfl⟩ := h
  exact Own.slice h3.head
theorem OwnTS.below (h : OwnTS w tv ths bs) (hb : Below w.heap.size w w') : OwnTS w' tv ths bs := h.of_blocks hb.size fun b hm => hb.block b (h.lt b hm)
theorem OwnTS.only (h : OwnTS w tv ths bs) (hb : Only ks w w') (hd : ∀ b ∈ bs, b ∉ ks) : OwnTS w' tv ths bs := h.of_blocks hb.size fun b hm => hb.block b (h.lt b hm) (hd b hm)
theorem OwnTS.far {b k : Nat} {u : Value} (h : OwnTS w tv ths bs) (hb : ∀ x ∈ bs, x ≠ b) : OwnTS (w.setCell ⟨b, k, none⟩ u) tv ths bs :=
  h.only (Only.setCell w u) fun x hx hm => hb x hx (by simpa using hm)
theorem OwnMa.rd (h : OwnMa w mv tv M bs) : RdMa w mv tv M := by
  obtain ⟨bm, bt, h1, h2, -⟩ := h
  exact ⟨h1.rd, h2.rd⟩
theorem OwnMa.lt (h : OwnMa w mv tv M bs) : ∀ b ∈ bs, b < w.heap.size := by
  obtain ⟨bm, bt, h1, h2, h3, rfl⟩ := h
  intro b hb
  rcases List.mem_append.1 hb with hb | hb
  · exact h1.lt b hb
  · exact h2.lt b hb
theorem OwnMa.of_blocks (h : OwnMa w mv tv M bs) (hs : w.heap.size ≤ w'.heap.size) (hk : ∀ b ∈ bs, w'.heap[b]? = w.heap[b]?) : OwnMa w' mv tv M bs := by
  obtain ⟨bm, bt, h1, h2, h3, rfl⟩ := h
  exact ⟨bm, bt, h1.of_blocks hs fun b hb => hk b (List.mem_append.2 (.inl hb)), h2.of_blocks hs fun b hb => hk b (List.mem_append.2 (.inr hb)), h3, rfl⟩
theorem OwnMa.slices (h : OwnMa w mv tv M bs) : ∃ A c B d, mv = .slice A M.mem.length c ∧ tv = .slice B M.ths.length d := by
  obtain ⟨bm, bt, h1, h2, h3, rfl⟩ := h
  obtain ⟨A, c, rfl, -, -⟩ := h1.slice
  obtain ⟨B, d, rfl, -, -⟩ := h2.slice
  exact ⟨A, c, B, d, rfl, rfl⟩
theorem RdMa.slices (h : RdMa w mv tv M) : ∃ A c B d, mv = .slice A M.mem.length c ∧ tv = .slice B M.ths.length d ∧ M.mem.length ≤ c ∧ M.ths.length ≤ d ∧ c ≤ 9223372036854775807 ∧ d ≤ 9223372036854775807 := by
  obtain ⟨⟨A, c, rfl, -, h1, h2, -⟩, vs, -, ⟨B, d, rfl, -, h3, h4, -⟩, -⟩ := h
  unfold maxLen at h2 h4
  exact ⟨A, c, B, d, rfl, rfl, h1, h3, by omega, by omega⟩
theorem RdAMa.slices (h : RdAMa w mv tv M) : ∃ A c B d, mv = .slice A M.mem.length c ∧ tv = .slice B M.ths.length d := by
  obtain ⟨⟨A, c, rfl, -, -, -, -⟩, vs, -, ⟨B, d, rfl, -, -, -, -⟩, -⟩ := h
  exact ⟨A, c, B, d, rfl, rfl⟩
theorem OwnMa.below (h : OwnMa w mv tv M bs) (hb : Below w.heap.size w w') : OwnMa w' mv tv M bs := h.of_blocks hb.size fun b hm => hb.block b (h.lt b hm)
theorem OwnMa.only (h : OwnMa w mv tv M bs) (hb : Only ks w w') (hd : ∀ b ∈ bs, b ∉ ks) : OwnMa w' mv tv M bs := h.of_blocks hb.size fun b hm => hb.block b (h.lt b hm) (hd b hm)
theorem OwnMa.far {b k : Nat} {u : Value} (h : OwnMa w mv tv M bs) (hb : ∀ x ∈ bs, x ≠ b) : OwnMa (w.setCell ⟨b, k, none⟩ u) mv tv M bs :=
  h.only (Only.setCell w u) fun x hx hm => hb x hx (by simpa using hm)
end
/-- threads whose values, whose rows' blocks are known -/
structure OwnT (w : World) (v : Value) (ts : List Th) (vs : List (Value × Value)) (qs : List (List Nat × List Nat)) (bt : List Nat) : Prop where
  lv : vs.length = ts.length
  lq : qs.length = ts.length
  own : OwnR w (⟨v, 3, ts.length, thCs ts vs, bt⟩ :: thRows ts vs qs)
section
variable {w w' : World} {v : Value} {ts : List Th} {vs : List (Value × Value)} {qs : List (List Nat × List Nat)} {bt : List Nat} {k : Nat} {t : Th} {p : Value × Value} {q : List Nat × List Nat}
theorem OwnT.toTS (h : OwnT w v ts vs qs bt) : OwnTS w v ts (blks (⟨v, 3, ts.length, thCs ts vs, bt⟩ :: thRows ts vs qs)) := ⟨vs, qs, bt, h.lv, h.lq, h.own, rfl⟩
theorem OwnT.row (h : OwnT w v ts vs qs bt) : Own w v 3 ts.length (thCs ts vs) bt := h.own.head
theorem OwnT.vals (h : OwnT w v ts vs qs bt) (ht : ts[k]? = some t) (hp : vs[k]? = some p) (hq : qs[k]? = some q) : Own w p.1 1 t.v.length (ints t.v) q.1 := h.own.tail.at_ (thRows_at ht hp hq).1
theorem OwnT.buf (h : OwnT w v ts vs qs bt) (ht : ts[k]? = some t) (hp : vs[k]? = some p) (hq : qs[k]? = some q) : Own w p.2 2 t.f.length (flc2 t.f) q.2 := h.own.tail.at_ (thRows_at ht hp hq).2
theorem OwnT.get (h : OwnT w v ts vs qs bt) (ht : ts[k]? = some t) : ∃ a b qa qb, vs[k]? = some (a, b) ∧ qs[k]? = some (qa, qb) := by
  have hk := (List.getElem?_eq_some_iff.1 ht).1
  exact ⟨_, _, _, _, List.getElem?_eq_getElem (by rw [h.lv]; exact hk), List.getElem?_eq_getElem (by rw [h.lq]; exact hk)⟩
theorem set_same {α : Type} {l : List α} {x : α} (h : l[k]? = some x) : l.set k x = l := by
  obtain ⟨hk, rfl⟩ := List.getElem?_eq_some_iff.1 h
  exact List.set_getElem_self hk
/-- a counter is written -/
theorem OwnT.pc {b o n c : Nat} (h : OwnT w (.slice (some ⟨b, o, none⟩) n c) ts vs qs bt) (ht : ts[k]? = some t) (x : Int) :
    OwnT (w.setCell ⟨b, o + k * 3, none⟩ (.int .i64 x)) (.slice (some ⟨b, o, none⟩) n c) (ts.set k { t with pc := x }) vs qs bt ∧ bt = [b] := by
  obtain ⟨a', b', qa, qb, hp, hq⟩ := h.get ht
  have hk := (List.getElem?_eq_some_iff.1 ht).1
  obtain ⟨A, c', he, -, -, -, hr⟩ := id h.row
  obtain rfl : bt = [b] := by
    rcases hr with ⟨h0, _⟩ | ⟨_, b', o', hA, hb', _, _⟩
    · omega
    · injection he with h1
      rw [hA] at h1
      injection h1 with h1
      injection h1 with h1
      rw [h1, hb']
  have hn : n = ts.length := by injection he
  subst hn
  have h1 := Own.set_ h.row (k * 3) (.int .i64 x)
  rw [thCs_pc x ht hp] at h1
  have h2 := h.own.set_ (i := 0) (w' := w.setCell ⟨b, o + k * 3, none⟩ (.int .i64 x)) (r' := ⟨_, 3, ts.length, thCs (ts.set k { t with pc := x }) vs, [b]⟩) rfl (Only.setCell w _) h1 (fun y hy => .inl hy)
  rw [List.set_cons_zero, ← thRows_pc x ht] at h2
  exact ⟨⟨by simpa using h.lv, by simpa using h.lq, by simpa using h2⟩, rfl⟩
/-- the values of a thread are written where they lie -/
theorem OwnT.newV {a b : Value} {qa qb : List Nat} {x : List Int} (h : OwnT w v ts vs qs bt) (ht : ts[k]? = some t) (hp : vs[k]? = some (a, b)) (hq : qs[k]? = some (qa, qb)) (ho : Only qa w w') (hn : Own w' a 1 x.length (ints x) qa) :
    OwnT w' v (ts.set k { t with v := x }) vs qs bt := by
  obtain ⟨r1, r2⟩ := thRows_at ht hp hq
  have h2 := h.own.set_ (i := k * 2 + 1) (w' := w') (r' := ⟨a, 1, x.length, ints x, qa⟩) (r := vRow t (a, b) (qa, qb)) (by simpa using r1) ho hn (fun y hy => .inl hy)
  rw [List.set_cons_succ, thRows_v a x qa ht hp hq, set_same hp, set_same hq] at h2
  refine ⟨by simpa using h.lv, by simpa using h.lq, ?_⟩
  have e : thCs (ts.set k { t with v := x }) vs = thCs ts vs := thCs_cells (by rw [List.map_set]; exact set_same (by rw [List.getElem?_map, ht]; rfl))
  rw [e]
  simpa using h2
theorem OwnT.newF {a b : Value} {qa qb : List Nat} {x : List P2} (h : OwnT w v ts vs qs bt) (ht : ts[k]? = some t) (hp : vs[k]? = some (a, b)) (hq : qs[k]? = some (qa, qb)) (ho : Only qb w w') (hn : Own w' b 2 x.length (flc2 x) qb) :
    OwnT w' v (ts.set k { t with f := x }) vs qs bt := by
  obtain ⟨r1, r2⟩ := thRows_at ht hp hq
  have h2 := h.own.set_ (i := k * 2 + 1 + 1) (w' := w') (r' := ⟨b, 2, x.length, flc2 x, qb⟩) (r := fRow t (a, b) (qa, qb)) (by simpa using r2) ho hn (fun y hy => .inl hy)
  rw [List.set_cons_succ, thRows_f b x qb ht hp hq, set_same hp, set_same hq] at h2
  refine ⟨by simpa using h.lv, by simpa using h.lq, ?_⟩
  have e : thCs (ts.set k { t with f := x }) vs = thCs ts vs := thCs_cells (by rw [List.map_set]; exact set_same (by rw [List.getElem?_map, ht]; rfl))
  rw [e]
  simpa using h2
/-- a thread gets another buffer: it lies in the old one's block, or in one that no row of the threads has -/
theorem OwnT.putF {b o n c : Nat} {a f f' : Value} {qa qb qb' : List Nat} {x : List P2} (h : OwnT w (.slice (some ⟨b, o, none⟩) n c) ts vs qs bt) (ht : ts[k]? = some t) (hp : vs[k]? = some (a, f)) (hq : qs[k]? = some (qa, qb))
    (hn : Own w f' 2 x.length (flc2 x) qb') (hd : ∀ y ∈ qb', y ∈ qb ∨ y ∉ blks (⟨.slice (some ⟨b, o, none⟩) n c, 3, ts.length, thCs ts vs, bt⟩ :: thRows ts vs qs)) :
    OwnT (w.setCell ⟨b, o + k * 3 + 2, none⟩ f') (.slice (some ⟨b, o, none⟩) n c) (ts.set k { t with f := x }) (vs.set k (a, f')) (qs.set k (qa, qb')) bt := by
  have hk := (List.getElem?_eq_some_iff.1 ht).1
  obtain ⟨r1, r2⟩ := thRows_at ht hp hq
  have h2 := h.own.set_ (i := k * 2 + 1 + 1) (w' := w) (r' := ⟨f', 2, x.length, flc2 x, qb'⟩) (r := fRow t (a, f) (qa, qb)) (by simpa using r2) (Only.refl _ _) hn hd
  rw [List.set_cons_succ, thRows_f f' x qb' ht hp hq] at h2
  obtain ⟨A, c', he, -, -, -, hr⟩ := id h.row
  obtain rfl : bt = [b] := by
    rcases hr with ⟨h0, _⟩ | ⟨_, b', o', hA, hb', _, _⟩
    · omega
    · injection he with h1
      rw [hA] at h1
      injection h1 with h1
      injection h1 with h1
      rw [h1, hb']
  have hn' : n = ts.length := by injection he
  subst hn'
  have h1 := Own.set_ h.row (k * 3 + 2) f'
  rw [thCs_f f' ht hp, ← Nat.add_assoc] at h1
  have h3 := h2.set_ (i := 0) (w' := w.setCell ⟨b, o + k * 3 + 2, none⟩ f') (r' := ⟨_, 3, ts.length, thCs ts (vs.set k (a, f')), [b]⟩) rfl (Only.setCell w _) h1 (fun y hy => .inl hy)
  rw [List.set_cons_zero] at h3
  refine ⟨by simpa using h.lv, by simpa using h.lq, ?_⟩
  have e : thCs (ts.set k { t with f := x }) (vs.set k (a, f')) = thCs ts (vs.set k (a, f')) := thCs_cells (by rw [List.map_set]; exact set_same (by rw [List.getElem?_map, ht]; rfl))
  rw [e]
  simpa using h3
end
/-- the size that the laws count -/
def totTh (t : Th) : Nat := t.v.length + t.f.length
def totTS (ths : List Th) : Nat := ths.length + (ths.map totTh).sum
def totMa (M : Ma) : Nat := M.mem.length + totTS M.ths
theorem totTS_take {ths : List Th} {k : Nat} {t : Th} (h : ths[k]? = some t) : ((ths.take (k + 1)).map totTh).sum = ((ths.take k).map totTh).sum + totTh t := by
  rw [List.take_add_one, h]
  simp
theorem totTS_sub (ths : List Th) (k : Nat) : ths.length + ((ths.take k).map totTh).sum ≤ totTS ths := by
  unfold totTS
  have : ((ths.take k).map totTh).sum + ((ths.drop k).map totTh).sum = (ths.map totTh).sum := by
    rw [← List.sum_append, ← List.map_append, List.take_append_drop]
  omega
theorem totTS_mem {ths : List Th} {k : Nat} {t : Th} (h : ths[k]? = some t) : ths.length + totTh t ≤ totTS ths := by
  have := totTS_sub ths (k + 1)
  rw [totTS_take h] at this
  omega
end Go.Proofs.YtgbgjlmkmlhefaaGreatDoor
