/- Contracts of chapter 8's functions (package impl), sixth part: a play's own methods (elementOf, alloc, free). Conditions: the play's box, its heap's rows and its row of references are the call's own; a heap of at most 24 objects; the library's variable errors.errorType holds the handle of the type error. -/
import Derived.Test.YtpenneklpolhgaaDoorVP
import Derived.Test.YtpenneklpolhgaaDoorH10
import Derived.Maps.AppendAt
namespace Go.Proofs.YtpenneklpolhgaaDoor
set_option maxRecDepth 20000
set_option linter.unusedSimpArgs false
set_option linter.unusedVariables false
open Go.ChangeShapes Go.WideShapes Go.ChangeAt Go.RowKit
set_option linter.unusedVariables false
theorem step_kept {P : Program} (w : World) {ops : Array Oper} {o : Oper} {a : Act} {K : Act → World → Prop} {Q : Exit → Act → World → Prop} {E : Prop} (hgd : o.guard = none) (s x : Operand) (t : TypeId)
    (ho : o.op = .call { callee := .builtin .append, args := #[s, x], argTypes := #[t, t] })
    (base : Nat) (e : TypeId) (i : TypeInfo) (z : Value) (size bytes : Nat) (ht : P.underlying t = some (.slice e)) (hi : P.info? e = some i) (hz : i.zero = some z)
    (hsize : i.size = size) (hby : i.bytes = bytes) (hzs : z.cells.size = size) (hsz : 0 < size)
    (v : Value) (n : Nat) (xs : List Value) (hs : a.eval s = v) (hown : w.ownsRow base e size v n xs)
    (ad : Addr) (m c : Nat) (news : List Value) (hx : a.eval x = .slice (some ad) m c) (hl : news.length = m * size) (hn : ∀ j u, news[j]? = some u → w.cell? (ad.add j) = some u) (h1 : ∀ u ∈ news, u.oneCell' = true)
    (h63 : n + m ≤ maxLen) (hbytes : (n + m) * bytes ≤ 140737488355328) (hbase : base ≤ w.heap.size)
    (h : ∀ v' w', w'.ownsRow base e size v' (n + m) (xs ++ news) → w.grownBy w' v.ownBlock → (v'.ownBlock = v.ownBlock ∨ v'.ownBlock = some w.heap.size) → K (a.put o.dst v') w') :
    if Region.wanted o (yielded ops a.tmps) = true then Oper.wp P o a w K Q else E := by
  have hw : Region.wanted o (yielded ops a.tmps) = true := by simp [Region.wanted, hgd]
  rw [if_pos hw]
  obtain ⟨v', w', hrun, h2, h3, _, h5⟩ := run_append_own_at (P := P) w base t o.type e i z size bytes ht hi hz hsize hby hzs hsz v n xs hown ad m c news hl hn h1 h63 hbytes hbase
  unfold Oper.wp execOp
  simp only [ho, resolve, invoke, builtin, Sem.run_bind, Sem.run_pure, Result.andThen_ok, List.map_toArray, List.map_cons, List.map_nil, hs, hx, hrun]
  exact h v' w' h2 h3 h5
theorem only_grown {w w' : World} {row : Option Nat} {ks : List Nat} (h : w.grownBy w' row) (hr : ∀ q, row = some q → q ∈ ks) : Only ks w w' :=
  ⟨h.os, h.tape, h.output, h.size, fun k hk hn => h.block k hk fun e => hn (hr k e.symm)⟩
theorem OwnHp.grown {w w' : World} {gv lv : Value} {h : Hp} {bs : List Nat} {row : Option Nat} (r : OwnHp w gv lv h bs) (g : w.grownBy w' row) (hr : ∀ q, row = some q → q ∉ bs) : OwnHp w' gv lv h bs :=
  r.of_blocks g.size fun b hb => g.block b (r.lt b hb) fun e => hr b e.symm hb
/-- a play in its box: a heap's rows, a row of references, apart -/
structure PlI (w : World) (pB base : Nat) (gv lv v8 : Value) (h : Hp) (rs : List P2) (bs : List Nat) : Prop where
  box : Bk w pB #[gv, lv, v8] 79
  hp : OwnHp w gv lv h bs
  refs : w.ownsRow base 33 2 v8 rs.length (flc2 rs)
  nb : ∀ q, v8.ownBlock = some q → q ∉ bs
  pb : pB ∉ bs
  lt : pB < base
/-- what a method of a play leaves: a play again, all else untouched -/
def RetDo (w : World) (pB base : Nat) (v8 : Value) (bs : List Nat) (h' : Hp) (rs' : List P2) (c : Int) (e : Ending) (w' : World) : Prop :=
  ∃ gv' lv' v8' bs', e = .returned (.int .i64 c) ∧ PlI w' pB base gv' lv' v8' h' rs' bs' ∧ (∀ b ∈ bs', b ∈ bs ∨ w.heap.size ≤ b) ∧ (∀ q, v8'.ownBlock = some q → v8.ownBlock = some q ∨ w.heap.size ≤ q) ∧ Only (pB :: v8.ownBlock.toList) w w'
theorem PlI.below {w w' : World} {pB base : Nat} {gv lv v8 : Value} {h : Hp} {rs : List P2} {bs : List Nat} (p : PlI w pB base gv lv v8 h rs bs) (hb : Below w.heap.size w w') : PlI w' pB base gv lv v8 h rs bs :=
  ⟨p.box.below hb p.box.lt, p.hp.below hb, ownsRow_below p.refs hb, p.nb, p.pb, p.lt⟩
set_option maxHeartbeats 1600000 in
theorem elementOf_no (v : Value) (rs : List P2) (i : Int) (w : World) (h : Rd w v 2 rs.length (flc2 rs)) (hi : inB i 0 ((rs.length : Int) - 1) = false) :
    Calls Tryd.prog 69 #[v, .int .i64 i] w fun e w' => e = .returned (.tuple #[.agg #[.int .i64 0, .int .i64 0], .bool false]) ∧ Below w.heap.size w w' := by
  obtain ⟨A, c, rfl, -, hnc, hc, hr⟩ := id h
  unfold maxLen at hc
  have HI := Lib.hid (fun W => by have hq := impl_indexOk i (rs.length : Int) W; rw [hi] at hq; exact hq)
  clear hi
  go_enter Tryd.func69, Tryd.ntmps69
  go_wp2_with (go_at_call 67; refine (HI.out _).mono ?_; rintro e w' ⟨rfl, rfl⟩)
  refine bodyPost_ret (v := .tuple #[.agg #[.int .i64 0, .int .i64 0], .bool false]) (by simp [results, Tryd.results69, go_sem]) rfl ⟨rfl, ?_⟩
  have hB := ((Below.refl w.heap.size w).alloc (Nat.le_refl _) (.cells #[.int .i64 0, .int .i64 0] 33)).alloc (by simp) (.cells #[.int .i64 0, .int .i64 0] 33)
  first
    | exact hB
    | exact (hB.setCell (Nat.le_refl _) _).setCell (Nat.le_refl _) _
set_option maxHeartbeats 1600000 in
theorem elementOf_yes (v : Value) (rs : List P2) (k : Nat) (r : P2) (w : World) (h : Rd w v 2 rs.length (flc2 rs)) (hk : rs[k]? = some r) :
    Calls Tryd.prog 69 #[v, .int .i64 k] w fun e w' => e = .returned (.tuple #[.agg #[.int .i64 r.a, .int .i64 r.b], .bool true]) ∧ Below w.heap.size w w' := by
  obtain ⟨A, c, rfl, -, hnc, hc, hr⟩ := id h
  unfold maxLen at hc
  have hl := (List.getElem?_eq_some_iff.1 hk).1
  have hi : inB (k : Int) 0 ((rs.length : Int) - 1) = true := by simp [inB]; omega
  have HI := Lib.hid (fun W => by have hq := impl_indexOk (k : Int) (rs.length : Int) W; rw [hi] at hq; exact hq)
  obtain ⟨b, o, rfl, hb, hcell⟩ := hr (by omega)
  obtain ⟨x, hx, p0, p1⟩ := p2_at hcell hl
  obtain rfl : x = r := by have := hx.out.symm.trans hk; injection this
  clear hi hcell hk hr
  go_enter Tryd.func69, Tryd.ntmps69
  go_wp2_with (go_at_call 67; refine (HI.out _).mono ?_; rintro e w' ⟨rfl, rfl⟩)
  refine bodyPost_ret (v := .tuple #[.agg #[.int .i64 x.a, .int .i64 x.b], .bool true]) (by simp [results, Tryd.results69, go_sem]) rfl ⟨rfl, ?_⟩
  have hB := (Below.refl w.heap.size w).alloc (Nat.le_refl _) (.cells #[.int .i64 0, .int .i64 0] 33)
  first
    | exact (Below.refl w.heap.size w).alloc (Nat.le_refl _) _
    | exact (hB.setCell (Nat.le_refl _) _).setCell (Nat.le_refl _) _
set_option maxHeartbeats 3200000 in
theorem play_alloc (pB base : Nat) (gv lv v8 : Value) (h : Hp) (rs : List P2) (bs : List Nat) (w : World) (p : PlI w pB base gv lv v8 h rs bs) (hsz : h.g.length ≤ 24 ∧ h.l.length ≤ 24) (hrs : rs.length ≤ 300) (hbw : base ≤ w.heap.size)
    (h' : Hp) (rs' : List P2) (code : Int) (hp : (allocOk h = true ∧ h' = allocH h ∧ rs' = rs ++ [allocR h] ∧ code = (allocR h).a) ∨ (allocOk h = false ∧ h' = h ∧ rs' = rs ∧ code = -1)) :
    Calls Tryd.prog 68 #[.pointer (some ⟨pB, 0, none⟩)] w (RetDo w pB base v8 bs h' rs' code) := by
  obtain ⟨A, c, B, d, rfl, rfl, -⟩ := p.hp.rd.slices
  obtain ⟨i, hi, hiz0, hiz1, hiz2⟩ := info_parts infoRef
  have kp := p.box
  obtain ⟨x0, -⟩ := kp.at_ 0 (x := .slice A h.g.length c) rfl
  obtain ⟨x1, -⟩ := kp.at_ 1 (x := .slice B h.l.length d) rfl
  have lp := kp.lt
  have HA := Lib.hid (impl_AllocObj _ _ h w p.hp.rd ⟨by omega, by omega⟩)
  go_enter Tryd.func68, Tryd.ntmps68
  go_wp2_with fail
  refine HA.out.mono ?_
  rintro e w1 ⟨gv1, lv1, bs1, rfl, ho1, hbs1, hb1⟩
  obtain ⟨A1, c1, B1, d1, rfl, rfl⟩ := ho1.slices
  have hi1 := ho1.lt
  obtain ⟨⟨ra, rb⟩, hrr⟩ : ∃ r, allocR h = r := ⟨_, rfl⟩
  obtain ⟨h1, hh1⟩ : ∃ h1, allocH h = h1 := ⟨_, rfl⟩
  rw [hrr, hh1] at hp
  rw [hrr]
  rw [hh1] at ho1 ⊢
  dsimp only
  have hbA := ((Below.refl w1.heap.size w1).alloc (Nat.le_refl _) (.cells #[.slice A1 h1.g.length c1, .slice B1 h1.l.length d1] 29)).alloc (by simp) (.cells #[.int .i64 ra, .int .i64 rb] 33)
  have q3 := (Bk.new w1 #[.slice A1 h1.g.length c1, .slice B1 h1.l.length d1] 29).alloc (.cells #[.int .i64 ra, .int .i64 rb] 33)
  have q4 := Bk.new (w1.alloc (.cells #[.slice A1 h1.g.length c1, .slice B1 h1.l.length d1] 29)) #[.int .i64 ra, .int .i64 rb] 33
  rw [World.size_alloc] at q4
  obtain ⟨W2, hW2⟩ : ∃ W2, W2 = (w1.alloc (.cells #[.slice A1 h1.g.length c1, .slice B1 h1.l.length d1] 29)).alloc (.cells #[.int .i64 ra, .int .i64 rb] 33) := ⟨_, rfl⟩
  have hz2 : W2.heap.size = w1.heap.size + 2 := by rw [hW2]; simp
  rw [← hW2] at hbA q3 q4
  have HW2 := Lib.hid hW2
  have HZ2 := Lib.hid hz2
  have hb2 := hb1.trans (hbA.mono hb1.size)
  have p2 := p.below hb2
  have ho2 := ho1.below hbA
  have hs1 := hb1.size
  clear hW2 hz2 x0 x1 HA hrr hh1
  rcases hp with ⟨hok, rfl, rfl, hcode⟩ | ⟨hok, rfl, rfl, rfl⟩
  · rw [hok]
    clear hok
    have hc2 : ra = code := hcode.symm
    clear hcode
    subst hc2
    have k2 := p2.box
    obtain ⟨y0, f0⟩ := k2.at_ 0 (x := .slice A h.g.length c) rfl
    obtain ⟨y1, f1⟩ := k2.at_ 1 (x := .slice B h.l.length d) rfl
    have hnb : ∀ q, v8.ownBlock = some q → base ≤ q ∧ q < w.heap.size := fun q hq => p.refs.lt q hq
    have lpb := p.lt
    have n3 : w1.heap.size ≠ pB := by omega
    have n4 : w1.heap.size + 1 ≠ pB := by omega
    have k3 := (k2.set_ 0 (.slice A1 h'.g.length c1)).set_ 1 (.slice B1 h'.l.length d1)
    have r3 := (q3.far (p := ⟨pB, 0, none⟩) n3 (.slice A1 h'.g.length c1)).far (p := ⟨pB, 1, none⟩) n3 (.slice B1 h'.l.length d1)
    have r4 := (q4.far (p := ⟨pB, 0, none⟩) n4 (.slice A1 h'.g.length c1)).far (p := ⟨pB, 1, none⟩) n4 (.slice B1 h'.l.length d1)
    have o3 := (ho2.far (b := pB) (k := 0) (u := .slice A1 h'.g.length c1) (fun b hb => by have := hbs1 b hb; omega)).far (b := pB) (k := 1) (u := .slice B1 h'.l.length d1) (fun b hb => by have := hbs1 b hb; omega)
    have nv : v8.ownBlock ≠ some pB := fun e => by have := hnb pB e; omega
    have f3 := ownsRow_setCell_other (ownsRow_setCell_other p2.refs (a := ⟨pB, 0, none⟩) nv (.slice A1 h'.g.length c1)) (a := ⟨pB, 1, none⟩) nv (.slice B1 h'.l.length d1)
    have ol3 := ((Only.of_below hb2 (pB :: v8.ownBlock.toList)).trans ((Only.setCell (b := pB) (i := 0) W2 (.slice A1 h'.g.length c1)).mono (by simp))).trans ((Only.setCell (b := pB) (i := 1) (W2.setCell ⟨pB, 0, none⟩ (.slice A1 h'.g.length c1)) (.slice B1 h'.l.length d1)).mono (by simp))
    have hsz3 : ((W2.setCell ⟨pB, 0, none⟩ (.slice A1 h'.g.length c1)).setCell ⟨pB, 1, none⟩ (.slice B1 h'.l.length d1)).heap.size = w1.heap.size + 2 := by rw [← HZ2.out]; simp [World.setCell]
    obtain ⟨q30, -⟩ := q3.at_ 0 (x := .slice A1 h'.g.length c1) rfl
    obtain ⟨q31, -⟩ := q3.at_ 1 (x := .slice B1 h'.l.length d1) rfl
    go_upto_region 4 with (fail)
    rw [← HW2.out]
    go_upto_region 5 with (fail)
    obtain ⟨W3, hW3⟩ : ∃ W3, W3 = (W2.setCell ⟨pB, 0, none⟩ (.slice A1 h'.g.length c1)).setCell ⟨pB, 1, none⟩ (.slice B1 h'.l.length d1) := ⟨_, rfl⟩
    rw [← hW3] at k3 r3 r4 o3 f3 ol3 hsz3 ⊢
    obtain ⟨z2, e2⟩ := k3.at_ 2 (x := v8) rfl
    obtain ⟨z3, -⟩ := r4.at_ 0 (x := .int .i64 ra) rfl
    obtain ⟨z4, -⟩ := r4.at_ 1 (x := .int .i64 rb) rfl
    obtain ⟨A8, c8, rfl⟩ := owns_form f3
    have HK3 := Lib.hid k3
    have HR4 := Lib.hid r4
    have lp3 := k3.lt
    have hB9 : base ≤ W3.heap.size := by omega
    have hl31 : w1.heap.size + 1 < W3.heap.size := by omega
    have HSZ3 := Lib.hid hsz3
    clear hsz3 hW3 q30 q31 y0 y1 f0 f1 k2 q3 q4 ho2 k3 r3 r4 hbA hb1 hb2
    go_region_law (refine step_kept _ rfl (.tmp 25) (.tmp 27) 55 rfl base 33 i (.agg #[.int .i64 0, .int .i64 0]) 2 16 Tryd.underlying55 hi hiz0 hiz1 hiz2 rfl (by decide) _ rs.length (flc2 rs) rfl ((ownsRow_below f3 (Below.refl _ _).drew).alloc _) ⟨W3.heap.size, 0, none⟩ 1 1 [.int .i64 ra, .int .i64 rb] rfl rfl (new_cells W3.drew _ _) (by simp [Value.oneCell']) (by unfold maxLen; omega) (by omega) (by have : W3.drew.heap.size = W3.heap.size := rfl; simp; omega) ?_; intro v9 w9 ho9 hg9 hl9; obtain ⟨A9, c9, rfl⟩ := owns_form ho9; have k9 := ((HK3.out.below (Below.refl _ _).drew HK3.out.lt).alloc (.cells #[.int .i64 ra, .int .i64 rb] 33)).grown hg9 (fun q hq e => by have := hnb q hq; omega); have r9 := ((HR4.out.below (Below.refl _ _).drew HR4.out.lt).alloc (.cells #[.int .i64 ra, .int .i64 rb] 33)).grown hg9 (fun q hq e => by have := hnb q hq; omega); obtain ⟨z9, e9⟩ := k9.at_ 2 (x := .slice A8 rs.length c8) rfl)
    all_goals
      have hvd : W3.drew.heap.size = W3.heap.size := rfl
      have O9 := (o3.below ((Below.refl _ _).drew.alloc (Nat.le_refl _) (.cells #[.int .i64 ra, .int .i64 rb] 33))).grown hg9 (fun q hq hm => by have := hnb q hq; have := hbs1 q hm; omega)
      have O10 := O9.far (b := pB) (k := 2) (u := .slice A9 (rs.length + 1) c9) (fun b hb => by have := hbs1 b hb; omega)
      have hs9 : (W3.alloc (.cells #[.int .i64 ra, .int .i64 rb] 33)).heap.size ≤ w9.heap.size := hg9.size
      have hl8 : (Value.slice A9 (rs.length + 1) c9).ownBlock = (Value.slice A8 rs.length c8).ownBlock ∨ (Value.slice A9 (rs.length + 1) c9).ownBlock = some (W3.alloc (.cells #[.int .i64 ra, .int .i64 rb] 33)).heap.size := hl9
      rw [World.size_alloc, HSZ3.out] at hs9 hl8
      have hn9 : ∀ q, (Value.slice A9 (rs.length + 1) c9).ownBlock = some q → (Value.slice A8 rs.length c8).ownBlock = some q ∨ w1.heap.size + 2 ≤ q := fun q hq => by
        rcases hl8 with e | e
        · exact .inl (e.symm.trans hq)
        · rw [e] at hq
          injection hq with hq
          exact .inr (by omega)
      have n9 : (Value.slice A9 (rs.length + 1) c9).ownBlock ≠ some pB := fun e => by
        rcases hn9 pB e with h | h
        · have := hnb pB h; omega
        · omega
      have ow9 := ownsRow_setCell_other (owns_snoc2 (x := ⟨ra, rb⟩) ho9) (a := ⟨pB, 2, none⟩) n9 (.slice A9 (rs.length + 1) c9)
      have kF := k9.set_ 2 (.slice A9 (rs.length + 1) c9)
      have rF := r9.far (p := ⟨pB, 2, none⟩) (by show w1.heap.size + 1 ≠ pB; omega) (.slice A9 (rs.length + 1) c9)
      obtain ⟨g0, -⟩ := rF.at_ 0 (x := .int .i64 ra) rfl
      have OF := ((ol3.trans (Only.of_below ((Below.refl _ _).drew.alloc (Nat.le_refl _) (.cells #[.int .i64 ra, .int .i64 rb] 33)) _)).trans (only_grown hg9 (fun q hq => List.mem_cons_of_mem _ (by rw [show (Value.slice A8 rs.length c8).ownBlock = some q from hq]; simp)))).trans ((Only.setCell (b := pB) (i := 2) w9 (.slice A9 (rs.length + 1) c9)).mono (by simp))
      have HE := Lib.hid (show PlI (w9.setCell ⟨pB, 2, none⟩ (.slice A9 (rs.length + 1) c9)) pB base (.slice A1 h'.g.length c1) (.slice B1 h'.l.length d1) (.slice A9 (rs.length + 1) c9) h' (rs ++ [⟨ra, rb⟩]) bs1 from ⟨kF, O10, ow9, fun q hq hm => by
        rcases hn9 q hq with h | h
        · have := hnb q h; have := hbs1 q hm; omega
        · have := hi1 q hm; omega, fun hm => by have := hbs1 _ hm; omega, lpb⟩)
      have HO := Lib.hid OF
      clear z2 e2 z3 z4 z9 e9 k9 r9 kF rF O9 O10 ow9 OF ho9 hg9
      go_wp2_with fail
      go_ret
      exact ⟨_, _, _, bs1, rfl, HE.out, fun b hb => .inr (hbs1 b hb), fun q hq => (hn9 q hq).imp id fun h => by omega, HO.out⟩
  · rw [hok]
    go_wp2_with fail
    rw [← HW2.out]
    go_ret
    exact ⟨_, _, _, bs, rfl, p2, fun b hb => .inl hb, fun q hq => .inl hq, Only.of_below hb2 _⟩
end Go.Proofs.YtpenneklpolhgaaDoor
