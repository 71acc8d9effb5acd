/- Contract of FreeSome (package impl). Conditions: the bench's rows and the list can be read and hold numbers of 64 bits; lengths that a law bounds. -/
import Derived.Test.YtiamkgkhamnaeaaN21
import Derived.Test.YtiamkgkhamnaeaaN17
import Derived.Test.YtiamkgkhamnaeaaRdap
namespace Go.Proofs.Ytiamkgkhamnaeaa
set_option maxRecDepth 20000
set_option linter.unusedSimpArgs false
set_option linter.unusedVariables false
open Go.ChangeShapes Go.WideShapes Go.ChangeAt Go.RowKit Go.Maps
set_option linter.unusedVariables false
def freeOk (B : Bn) (l : List Int) : Bool := bnOk B && (takeAll B.w l).isSome
def freeBn (B : Bn) (l : List Int) : Bn := if bnOk B then (match takeAll B.w l with | some wf => { B with w := wf, f := B.f ++ l } | none => B) else B
theorem free_no {B : Bn} {l : List Int} (h : bnOk B = false ∨ takeAll B.w l = none) : freeBn B l = B ∧ freeOk B l = false := by
  unfold freeBn freeOk
  rcases h with h | h
  · simp [h]
  · rw [h]
    simp
theorem free_yes {B : Bn} {l wf : List Int} (h : bnOk B = true) (h2 : takeAll B.w l = some wf) : freeBn B l = { B with w := wf, f := B.f ++ l } ∧ freeOk B l = true := by
  unfold freeBn freeOk
  rw [h, h2]
  exact ⟨rfl, rfl⟩
theorem OwnBT.putF {w w' : World} {lo : Nat} {a b c d v : Value} {B B' : Bn} (h : OwnBT w lo a b c d B) (h9 : w'.ownsRow lo 3 1 v B'.f.length (ints B'.f)) (hg : w.grownBy w' d.ownBlock) (hloc : v.ownBlock = d.ownBlock ∨ v.ownBlock = some w.heap.size) (e1 : B'.l = B.l) (e2 : B'.h = B.h) (e3 : B'.w = B.w) :
    OwnBT w' lo a b c v B' :=
  ⟨by rw [e1]; exact kept_ap h.l h.ad.symm hg, by rw [e2]; exact kept_ap h.h h.bd.symm hg, by rw [e3]; exact kept_ap h.q h.cd.symm hg, h9, h.ab, h.ac, (ap_new h.l h.ad.symm hloc).symm, h.bc, (ap_new h.h h.bd.symm hloc).symm, (ap_new h.q h.cd.symm hloc).symm⟩
theorem wpList_append_rd_at {P : Program} (w : World) {ops : Array Oper} {rest : List Oper} {o : Oper} {a : Act} {Q : Exit → Act → World → Prop} (hgd : o.guard = none) (s x : Operand) (t : TypeId)
    (ho : o.op = .call { callee := .builtin .append, args := #[s, x], argTypes := #[t, t] })
    (base : Nat) (e : TypeId) (i : TypeInfo) (z : Value) (size bytes : Nat) (ht : P.underlying t = some (.slice e)) (hi : P.info? e = some i) (hz : i.zero = some z)
    (hsize : i.size = size) (hby : i.bytes = bytes) (hzs : z.cells.size = size) (hsz : 0 < size)
    (v : Value) (n : Nat) (xs : List Value) (hs : a.eval s = v) (hown : w.ownsRow base e size v n xs)
    (u : Value) (m : Nat) (news : List Value) (hu : a.eval x = u) (hx : Rd w u size m news) (h1 : ∀ u ∈ news, u.oneCell' = true)
    (h63 : n + m ≤ maxLen) (hbytes : (n + m) * bytes ≤ 140737488355328) (hbase : base ≤ w.heap.size)
    (h : ∀ v' w', w'.ownsRow base e size v' (n + m) (xs ++ news) → w.grownBy w' v.ownBlock → (v'.ownBlock = v.ownBlock ∨ v'.ownBlock = some w.heap.size) → wpList P ops Q rest (a.put o.dst v') w') :
    wpList P ops Q (o :: rest) a w := by
  obtain ⟨A, c, rfl, hl, hc, hm, hr⟩ := hx
  cases A with
  | some ad =>
    have hnews : ∀ j u, news[j]? = some u → w.cell? (ad.add j) = some u := by
      intro j y hy
      have hj := (List.getElem?_eq_some_iff.1 hy).1
      have hpos : 0 < m := by
        rcases Nat.eq_zero_or_pos m with h0 | h0
        · subst h0
          omega
        · exact h0
      obtain ⟨b, o, he, hb, hcell⟩ := hr hpos
      injection he with he
      subst he
      have := hcell j y hy
      unfold Addr.add
      split
      · rename_i h0
        subst h0
        exact this
      · exact this
    exact wpList_append_own_at w hgd s x t ho base e i z size bytes ht hi hz hsize hby hzs hsz v n xs hs hown ad m c news hu hl hnews h1 h63 hbytes hbase fun v' w' h2 h3 _ h5 => h v' w' h2 h3 h5
  | none =>
    have h0 : m = 0 := by
      rcases Nat.eq_zero_or_pos m with h0 | h0
      · exact h0
      · obtain ⟨b, o, he, -⟩ := hr h0
        cases he
    subst h0
    have hn0 : news = [] := List.eq_nil_of_length_eq_zero (by omega)
    subst hn0
    refine wpList_plain hgd fun K hK => ?_
    have hrun : ∀ ty, (Builtin.append_ #[t, t] ty #[v, .slice none 0 c]).run P w = .ok v w := fun ty => by
      rcases hown.2 with ⟨rfl, rfl⟩ | ⟨g, cap, cur, rfl, _, _, hnc, _⟩
      · simp [Builtin.append_, run_underlying ht, sizeOf, typeInfo, hi, Builtin.lenOf, Builtin.firstCells]
      · simp [Builtin.append_, run_underlying ht, sizeOf, typeInfo, hi, Builtin.lenOf, Builtin.firstCells, hnc, storeCells]
    unfold Oper.wp execOp
    simp only [ho, resolve, invoke, builtin, Sem.run_bind, Sem.run_pure, Result.andThen_ok, List.map_toArray, List.map_cons, List.map_nil, hs, hu, hrun]
    exact hK _ _ (h v w (by simpa using hown) (World.grownBy.refl _ _) (.inl rfl))
set_option maxHeartbeats 1600000 in
theorem deleteFuncT (D3 : Option Addr) (d3 : Nat) (xs wf : List Int) (lo p gm n : Nat) (D : DU) (w : World) (hO : w.ownsRow lo 3 1 (.slice D3 xs.length d3) xs.length (ints xs))
    (hs : SetAt w p gm n D wf) (hp : (Value.slice D3 xs.length d3).ownBlock ≠ some p) (hg : (Value.slice D3 xs.length d3).ownBlock ≠ some gm) (hw : ∀ x ∈ xs, (Lit.int .i64 x).wf = true) (hf : (xs.filter fun y => decide (y ∈ wf)) = wf) :
    Calls Try.prog 88 #[.slice D3 xs.length d3, .func (.func 89) #[] #[.pointer (some ⟨p, 0, none⟩)]] w fun e w' =>
      e = .returned (.slice D3 wf.length d3) ∧ w'.ownsRow lo 3 1 (.slice D3 wf.length d3) wf.length (ints wf) ∧ w.grownBy w' (Value.slice D3 xs.length d3).ownBlock ∧ (Value.slice D3 wf.length d3).ownBlock = (Value.slice D3 xs.length d3).ownBlock := by
  obtain ⟨bs, hown, -⟩ := own_of_typed hO
  have hrd := hown.rd
  have hcc := owns_caps hO
  by_cases h0 : 0 < xs.length
  · obtain ⟨g, rfl⟩ := owns_addr hO h0
    refine (deleteFuncI g d3 xs wf lo p gm n D w hO hcc.1 hcc.2 hs (fun e => hp (by rw [e]; rfl)) (fun e => hg (by rw [e]; rfl)) hw hrd).mono ?_
    rintro e w' ⟨rfl, h1, h2⟩
    rw [hf] at h1 ⊢
    exact ⟨rfl, h1, Only.grownOne h2, rfl⟩
  · obtain rfl : xs = [] := List.eq_nil_of_length_eq_zero (by omega)
    obtain rfl : wf = [] := by rw [← hf]; rfl
    have HQ : Hid (Calls Try.prog 112 #[.slice D3 0 d3, .func (.func 89) #[] #[.pointer (some ⟨p, 0, none⟩)]] w fun e w' => e = .returned (.int .i64 (-1)) ∧ w = w') := Lib.hid ((indexFuncI _ [] p gm n D [] w hrd hs hw).mono (by
      rintro e w1 ⟨r, rfl, ⟨rfl, hall⟩ | ⟨k', rfl, hk', h1', h2'⟩, rfl⟩
      · exact ⟨rfl, rfl⟩
      · exact absurd hk' (by simp)))
    have HO := Lib.hid hO
    show Calls Try.prog 88 #[.slice D3 0 d3, .func (.func 89) #[] #[.pointer (some ⟨p, 0, none⟩)]] w _
    clear hs hp hg hw hf hrd hown hcc hO
    go_enter Try.func88, Try.ntmps88
    go_wp2_with (go_at_call 112; refine HQ.out.mono ?_; rintro e w1 ⟨rfl, rfl⟩)
    go_ret
    exact ⟨rfl, HO.out, World.grownBy.refl _ _, trivial⟩
set_option maxHeartbeats 3200000 in
theorem impl_FreeSome (a b c d : Value) (B : Bn) (u : Value) (l : List Int) (w : World) (r : RdBn w a b c d B) (hw : BnR B) (hu : Rd w u 1 l.length (ints l)) (hul : l.length ≤ 16777215) (hwl : ∀ x ∈ l, (Lit.int .i64 x).wf = true) (hsz : szBn B ≤ 16777215) :
    Calls Try.prog 46 #[.agg #[a, b, c, d, .int .i64 B.n], u] w (RetBnV (freeBn B l) (.bool (freeOk B l)) w) := by
  obtain ⟨A1, c1, A2, c2, A3, c3, A4, c4, ⟨rfl, rfl, rfl, rfl⟩, -, -⟩ := r.slices
  obtain ⟨i, hi, hiz0, hiz1, hiz2⟩ := info_parts infoInt
  have hll : (B.l.length ≤ 16777215 ∧ B.h.length ≤ 16777215) ∧ B.w.length ≤ 16777215 ∧ B.f.length ≤ 16777215 := by unfold szBn at hsz; omega
  obtain ⟨W0, hW0⟩ : ∃ W0, W0 = (w.alloc (.cells #[.slice A1 B.l.length c1, .slice A2 B.h.length c2, .slice A3 B.w.length c3, .slice A4 B.f.length c4, .int .i64 B.n] 31)).alloc (.cells #[.slice none 0 0, .slice none 0 0, .slice none 0 0, .slice none 0 0, .int .i64 0] 31) := ⟨_, rfl⟩
  have hB0 := ((Below.refl w.heap.size w).alloc (Nat.le_refl _) (.cells #[.slice A1 B.l.length c1, .slice A2 B.h.length c2, .slice A3 B.w.length c3, .slice A4 B.f.length c4, .int .i64 B.n] 31)).alloc (by simp) (.cells #[.slice none 0 0, .slice none 0 0, .slice none 0 0, .slice none 0 0, .int .i64 0] 31)
  have k0 := (Bk.new w #[.slice A1 B.l.length c1, .slice A2 B.h.length c2, .slice A3 B.w.length c3, .slice A4 B.f.length c4, .int .i64 B.n] 31).alloc (.cells #[.slice none 0 0, .slice none 0 0, .slice none 0 0, .slice none 0 0, .int .i64 0] 31)
  have r0 := Bk.new (w.alloc (.cells #[.slice A1 B.l.length c1, .slice A2 B.h.length c2, .slice A3 B.w.length c3, .slice A4 B.f.length c4, .int .i64 B.n] 31)) #[.slice none 0 0, .slice none 0 0, .slice none 0 0, .slice none 0 0, .int .i64 0] 31
  simp only [World.size_alloc] at r0
  have hs0 : W0.heap.size = w.heap.size + 2 := by rw [hW0]; simp
  rw [← hW0] at hB0 k0 r0
  have HBO : Hid (∀ W : World, Below w.heap.size w W → Calls Try.prog 58 #[.agg #[.slice A1 B.l.length c1, .slice A2 B.h.length c2, .slice A3 B.w.length c3, .slice A4 B.f.length c4, .int .i64 B.n]] W fun e w' => e = .returned (.bool (bnOk B)) ∧ Below W.heap.size W w') := Lib.hid (fun W hW => impl_BenchOk _ _ _ _ B W (r.below hW) hw (by omega))
  have HC := Lib.hid (copyBenchT _ _ _ _ B W0 (r.below hB0) (by omega))
  have HRW := Lib.hid r
  have HU := Lib.hid hu
  have HWL := Lib.hid hwl
  have HWQ : Hid (∀ x ∈ B.w, (Lit.int .i64 x).wf = true) := Lib.hid (fun x hx => hw x (by simp [allBn, hx]))
  clear hu hwl
  have HSZ := Lib.hid hsz
  have HW0 := Lib.hid hW0
  have hz0 : w.heap.size + 2 ≤ W0.heap.size := by omega
  have HB0 := Lib.hid hB0
  obtain ⟨y0, -⟩ := k0.at_ 0 (x := .slice A1 B.l.length c1) rfl
  clear hW0 hs0 hB0 r hsz
  go_enter Try.func46, Try.ntmps46
  go_wp2_with fail
  rw [← HW0.out]
  clear y0
  refine HC.out.mono ?_
  rintro e w1 ⟨u1, u2, u3, u4, rfl, hO, hb1⟩
  obtain ⟨D1, d1, rfl⟩ := owns_form' hO.l
  obtain ⟨D2, d2, rfl⟩ := owns_form' hO.h
  obtain ⟨D3, d3, rfl⟩ := owns_form' hO.q
  obtain ⟨D4, d4, rfl⟩ := owns_form' hO.f
  have hz1 := hb1.size
  have k1 := (k0.below hb1 k0.lt).alloc (.cells #[.slice D1 B.l.length d1, .slice D2 B.h.length d2, .slice D3 B.w.length d3, .slice D4 B.f.length d4, .int .i64 B.n] 31)
  have r1 := (r0.below hb1 r0.lt).alloc (.cells #[.slice D1 B.l.length d1, .slice D2 B.h.length d2, .slice D3 B.w.length d3, .slice D4 B.f.length d4, .int .i64 B.n] 31)
  have q1 := Bk.new w1 #[.slice D1 B.l.length d1, .slice D2 B.h.length d2, .slice D3 B.w.length d3, .slice D4 B.f.length d4, .int .i64 B.n] 31
  have hO1 := hO.below ((Below.refl _ _).alloc (Nat.le_refl _) (.cells #[.slice D1 B.l.length d1, .slice D2 B.h.length d2, .slice D3 B.w.length d3, .slice D4 B.f.length d4, .int .i64 B.n] 31))
  have HN1 := Lib.hid (hO.neHigh (g := w1.heap.size) (Nat.le_refl _))
  have hB1 := (HB0.out.trans (hb1.mono HB0.out.size)).alloc (by omega) (.cells #[.slice D1 B.l.length d1, .slice D2 B.h.length d2, .slice D3 B.w.length d3, .slice D4 B.f.length d4, .int .i64 B.n] 31)
  obtain ⟨W1, hW1⟩ : ∃ W1, W1 = w1.alloc (.cells #[.slice D1 B.l.length d1, .slice D2 B.h.length d2, .slice D3 B.w.length d3, .slice D4 B.f.length d4, .int .i64 B.n] 31) := ⟨_, rfl⟩
  rw [← hW1] at k1 r1 q1 hO1 hB1
  have HS1 := Lib.hid (And.intro hO1 (And.intro k1 (And.intro r1 (And.intro q1 hB1))))
  have HBC := Lib.hid (HBO.out _ hB1)
  obtain ⟨t0, -⟩ := k1.at_ 0 (x := .slice A1 B.l.length c1) rfl
  obtain ⟨t1, -⟩ := k1.at_ 1 (x := .slice A2 B.h.length c2) rfl
  obtain ⟨t2, -⟩ := k1.at_ 2 (x := .slice A3 B.w.length c3) rfl
  obtain ⟨t3, -⟩ := k1.at_ 3 (x := .slice A4 B.f.length c4) rfl
  obtain ⟨t4, -⟩ := k1.at_ 4 (x := .int .i64 B.n) rfl
  have HW1 := Lib.hid hW1
  have hgl := q1.lt
  clear k0 r0 hO hb1 hW1 k1 r1 q1 hO1 hB1
  go_upto_region 2 with (fail)
  rw [← HW1.out]
  go_upto_region 3 with (go_at_call 86; refine (impl_setOf _ B.w _ (HRW.out.below HS1.out.2.2.2.2).q HWQ.out (by omega)).mono ?_; rintro e w2 ⟨g, D, rfl, hM, hSM, hgm, hb2⟩)
  have HSM := Lib.hid hSM
  obtain ⟨hO1, k1, r1, q1, hB1⟩ := HS1.out
  obtain ⟨W2, hW2⟩ : ∃ W2, W2 = w2.alloc (.cells #[.map (some g)] 107) := ⟨_, rfl⟩
  have hbA := hb2.alloc hb2.size (.cells #[.map (some g)] 107)
  have hMA := hM.below (B := w2.heap.size) ((Below.refl w2.heap.size w2).alloc (Nat.le_refl _) (.cells #[.map (some g)] 107)) hM.lt
  have pA := Bk.new w2 #[.map (some g)] 107
  have hpz := hb2.size
  have hgw := hM.lt
  rw [← hW2] at hbA hMA pA
  have k2 := k1.below hbA k1.lt
  have r2 := r1.below hbA r1.lt
  have q2 := q1.below hbA q1.lt
  have hO2 := hO1.below hbA
  have hB2 := hB1.trans (hbA.mono hB1.size)
  have HN3 : Hid (NeB g (.slice D1 B.l.length d1) (.slice D2 B.h.length d2) (.slice D3 B.w.length d3) (.slice D4 B.f.length d4)) := Lib.hid (hO1.neHigh hgm)
  have HN2 : Hid ((Value.slice D3 B.w.length d3).ownBlock ≠ some w2.heap.size ∧ (Value.slice D3 B.w.length d3).ownBlock ≠ some g) := Lib.hid ⟨fun e9 => by have := hO1.q.lt _ e9; omega, fun e9 => by have := hO1.q.lt _ e9; omega⟩
  have HBC2 := Lib.hid (HBO.out W2 hB2)
  have hpl := pA.lt
  rw [← hW2]
  obtain ⟨t0b, -⟩ := k2.at_ 0 (x := .slice A1 B.l.length c1) rfl
  obtain ⟨s0, -⟩ := k2.at_ 0 (x := .slice A1 B.l.length c1) rfl
  obtain ⟨s1, -⟩ := k2.at_ 1 (x := .slice A2 B.h.length c2) rfl
  obtain ⟨s2, -⟩ := k2.at_ 2 (x := .slice A3 B.w.length c3) rfl
  obtain ⟨s3, -⟩ := k2.at_ 3 (x := .slice A4 B.f.length c4) rfl
  obtain ⟨s4, -⟩ := k2.at_ 4 (x := .int .i64 B.n) rfl
  clear hW2 hSM hM hb2 hbA t0 t1 t2 t3 t4 t0b k1 r1 q1 hO1 hB1
  cases hok : bnOk B
  · have HNO := Lib.hid (free_no (B := B) (l := l) (.inl hok))
    rw [hok] at HBC2
    clear hok
    go_wp2_with (go_at_call 58; refine HBC2.out.mono ?_; rintro e w3 ⟨rfl, hb3⟩; have k3 := k2.below hb3 k2.lt; have r3 := r2.below hb3 r2.lt; have q3 := q2.below hb3 q2.lt; have p3 := pA.below hb3 pA.lt; have hM3 := hMA.below hb3 hMA.lt; have hO3 := hO2.below hb3; have hB3 := hB2.trans (hb3.mono hB2.size); obtain ⟨n0, nf0⟩ := k3.at_ 0 (x := .slice A1 B.l.length c1) rfl; obtain ⟨n1, nf1⟩ := k3.at_ 1 (x := .slice A2 B.h.length c2) rfl; obtain ⟨n2, nf2⟩ := k3.at_ 2 (x := .slice A3 B.w.length c3) rfl; obtain ⟨n3, nf3⟩ := k3.at_ 3 (x := .slice A4 B.f.length c4) rfl; obtain ⟨n4, nf4⟩ := k3.at_ 4 (x := .int .i64 B.n) rfl; obtain ⟨e0, ef0⟩ := q3.at_ 0 (x := .slice D1 B.l.length d1) rfl; obtain ⟨e1, ef1⟩ := q3.at_ 1 (x := .slice D2 B.h.length d2) rfl; obtain ⟨e2, ef2⟩ := q3.at_ 2 (x := .slice D3 B.w.length d3) rfl; obtain ⟨e3, ef3⟩ := q3.at_ 3 (x := .slice D4 B.f.length d4) rfl; obtain ⟨e4, ef4⟩ := q3.at_ 4 (x := .int .i64 B.n) rfl; obtain ⟨f0, ff0⟩ := r3.at_ 0 (x := .slice none 0 0) rfl; obtain ⟨f1, ff1⟩ := r3.at_ 1 (x := .slice none 0 0) rfl; obtain ⟨f2, ff2⟩ := r3.at_ 2 (x := .slice none 0 0) rfl; obtain ⟨f3, ff3⟩ := r3.at_ 3 (x := .slice none 0 0) rfl; obtain ⟨f4, ff4⟩ := r3.at_ 4 (x := .int .i64 0) rfl; obtain ⟨pm0, pmf0⟩ := p3.at_ 0 (x := .map (some g)) rfl)
    have qF := r3.set5 (.slice D1 B.l.length d1) (.slice D2 B.h.length d2) (.slice D3 B.w.length d3) (.slice D4 B.f.length d4) (.int .i64 B.n)
    obtain ⟨zz0, -⟩ := qF.at_ 0 (x := .slice D1 B.l.length d1) rfl
    obtain ⟨zz1, -⟩ := qF.at_ 1 (x := .slice D2 B.h.length d2) rfl
    obtain ⟨zz2, -⟩ := qF.at_ 2 (x := .slice D3 B.w.length d3) rfl
    obtain ⟨zz3, -⟩ := qF.at_ 3 (x := .slice D4 B.f.length d4) rfl
    obtain ⟨zz4, -⟩ := qF.at_ 4 (x := .int .i64 B.n) rfl
    refine bodyPost_ret (v := .tuple #[.agg #[.slice D1 B.l.length d1, .slice D2 B.h.length d2, .slice D3 B.w.length d3, .slice D4 B.f.length d4, .int .i64 B.n], .bool false]) (by simp [results, Try.results46, go_sem, zz0, zz1, zz2, zz3, zz4]) rfl ?_
    have hR := (hO3.only1 (hO3.neLow (by omega)) (only_set5 _ (w.heap.size + 1) (.slice D1 B.l.length d1) (.slice D2 B.h.length d2) (.slice D3 B.w.length d3) (.slice D4 B.f.length d4) (.int .i64 B.n))).ret (w := w) (x := .bool false) (by omega) (below_set5 hB3 (Nat.le_succ _) (.slice D1 B.l.length d1) (.slice D2 B.h.length d2) (.slice D3 B.w.length d3) (.slice D4 B.f.length d4) (.int .i64 B.n))
    rw [HNO.out.1, HNO.out.2]
    exact hR
  rw [hok] at HBC2
  have HOK := Lib.hid hok
  clear hok
  cases htk : takeAll B.w l
  · have HNO := Lib.hid (free_no (B := B) (l := l) (.inr htk))
    have HV : Hid ((takeAll B.w l).isSome = false) := Lib.hid (by rw [htk]; rfl)
    clear htk
    go_wp2_with (first
    | (go_at_call 58; refine HBC2.out.mono ?_; rintro e w3 ⟨rfl, hb3⟩; have k3 := k2.below hb3 k2.lt; have r3 := r2.below hb3 r2.lt; have q3 := q2.below hb3 q2.lt; have p3 := pA.below hb3 pA.lt; have hM3 := hMA.below hb3 hMA.lt; have hO3 := hO2.below hb3; have hB3 := hB2.trans (hb3.mono hB2.size); obtain ⟨n0, nf0⟩ := k3.at_ 0 (x := .slice A1 B.l.length c1) rfl; obtain ⟨n1, nf1⟩ := k3.at_ 1 (x := .slice A2 B.h.length c2) rfl; obtain ⟨n2, nf2⟩ := k3.at_ 2 (x := .slice A3 B.w.length c3) rfl; obtain ⟨n3, nf3⟩ := k3.at_ 3 (x := .slice A4 B.f.length c4) rfl; obtain ⟨n4, nf4⟩ := k3.at_ 4 (x := .int .i64 B.n) rfl; obtain ⟨e0, ef0⟩ := q3.at_ 0 (x := .slice D1 B.l.length d1) rfl; obtain ⟨e1, ef1⟩ := q3.at_ 1 (x := .slice D2 B.h.length d2) rfl; obtain ⟨e2, ef2⟩ := q3.at_ 2 (x := .slice D3 B.w.length d3) rfl; obtain ⟨e3, ef3⟩ := q3.at_ 3 (x := .slice D4 B.f.length d4) rfl; obtain ⟨e4, ef4⟩ := q3.at_ 4 (x := .int .i64 B.n) rfl; obtain ⟨f0, ff0⟩ := r3.at_ 0 (x := .slice none 0 0) rfl; obtain ⟨f1, ff1⟩ := r3.at_ 1 (x := .slice none 0 0) rfl; obtain ⟨f2, ff2⟩ := r3.at_ 2 (x := .slice none 0 0) rfl; obtain ⟨f3, ff3⟩ := r3.at_ 3 (x := .slice none 0 0) rfl; obtain ⟨f4, ff4⟩ := r3.at_ 4 (x := .int .i64 0) rfl; obtain ⟨pm0, pmf0⟩ := p3.at_ 0 (x := .map (some g)) rfl)
    | (go_at_call 87; refine (impl_takeOut g B.w.length D u B.w l _ hM3 HSM.out (HU.out.below hB3) HWL.out).mono ?_; rintro e w4 ⟨rfl, ho4, hM4⟩; rw [HV.out]; have k4 := k3.only ho4 (by simp; omega); have r4 := r3.only ho4 (by simp; omega); have q4 := q3.only ho4 (by simp; omega); obtain ⟨eb0, ebf0⟩ := q4.at_ 0 (x := .slice D1 B.l.length d1) rfl; obtain ⟨eb1, ebf1⟩ := q4.at_ 1 (x := .slice D2 B.h.length d2) rfl; obtain ⟨eb2, ebf2⟩ := q4.at_ 2 (x := .slice D3 B.w.length d3) rfl; obtain ⟨eb3, ebf3⟩ := q4.at_ 3 (x := .slice D4 B.f.length d4) rfl; obtain ⟨eb4, ebf4⟩ := q4.at_ 4 (x := .int .i64 B.n) rfl; obtain ⟨fb0, fbf0⟩ := r4.at_ 0 (x := .slice none 0 0) rfl; obtain ⟨fb1, fbf1⟩ := r4.at_ 1 (x := .slice none 0 0) rfl; obtain ⟨fb2, fbf2⟩ := r4.at_ 2 (x := .slice none 0 0) rfl; obtain ⟨fb3, fbf3⟩ := r4.at_ 3 (x := .slice none 0 0) rfl; obtain ⟨fb4, fbf4⟩ := r4.at_ 4 (x := .int .i64 0) rfl))
    have hO4 := hO3.only1 HN3.out ho4
    have hB4 := hB3.trans (ho4.below (B := w.heap.size) hB3.size (by simp; omega))
    have qF := r4.set5 (.slice D1 B.l.length d1) (.slice D2 B.h.length d2) (.slice D3 B.w.length d3) (.slice D4 B.f.length d4) (.int .i64 B.n)
    obtain ⟨zz0, -⟩ := qF.at_ 0 (x := .slice D1 B.l.length d1) rfl
    obtain ⟨zz1, -⟩ := qF.at_ 1 (x := .slice D2 B.h.length d2) rfl
    obtain ⟨zz2, -⟩ := qF.at_ 2 (x := .slice D3 B.w.length d3) rfl
    obtain ⟨zz3, -⟩ := qF.at_ 3 (x := .slice D4 B.f.length d4) rfl
    obtain ⟨zz4, -⟩ := qF.at_ 4 (x := .int .i64 B.n) rfl
    refine bodyPost_ret (v := .tuple #[.agg #[.slice D1 B.l.length d1, .slice D2 B.h.length d2, .slice D3 B.w.length d3, .slice D4 B.f.length d4, .int .i64 B.n], .bool false]) (by simp [results, Try.results46, go_sem, zz0, zz1, zz2, zz3, zz4]) rfl ?_
    have hR := (hO4.only1 (hO4.neLow (by omega)) (only_set5 _ (w.heap.size + 1) (.slice D1 B.l.length d1) (.slice D2 B.h.length d2) (.slice D3 B.w.length d3) (.slice D4 B.f.length d4) (.int .i64 B.n))).ret (w := w) (x := .bool false) (by omega) (below_set5 hB4 (Nat.le_succ _) (.slice D1 B.l.length d1) (.slice D2 B.h.length d2) (.slice D3 B.w.length d3) (.slice D4 B.f.length d4) (.int .i64 B.n))
    rw [HNO.out.1, HNO.out.2]
    exact hR
  rename_i wf
  have HTK := Lib.hid htk
  have HY := Lib.hid (free_yes (B := B) (l := l) HOK.out htk)
  have HV : Hid ((takeAll B.w l).isSome = true) := Lib.hid (by rw [htk]; rfl)
  clear htk
  go_upto_region 5 with (first
    | (go_at_call 58; refine HBC2.out.mono ?_; rintro e w3 ⟨rfl, hb3⟩; have k3 := k2.below hb3 k2.lt; have r3 := r2.below hb3 r2.lt; have q3 := q2.below hb3 q2.lt; have p3 := pA.below hb3 pA.lt; have hM3 := hMA.below hb3 hMA.lt; have hO3 := hO2.below hb3; have hB3 := hB2.trans (hb3.mono hB2.size); obtain ⟨n0, nf0⟩ := k3.at_ 0 (x := .slice A1 B.l.length c1) rfl; obtain ⟨n1, nf1⟩ := k3.at_ 1 (x := .slice A2 B.h.length c2) rfl; obtain ⟨n2, nf2⟩ := k3.at_ 2 (x := .slice A3 B.w.length c3) rfl; obtain ⟨n3, nf3⟩ := k3.at_ 3 (x := .slice A4 B.f.length c4) rfl; obtain ⟨n4, nf4⟩ := k3.at_ 4 (x := .int .i64 B.n) rfl; obtain ⟨e0, ef0⟩ := q3.at_ 0 (x := .slice D1 B.l.length d1) rfl; obtain ⟨e1, ef1⟩ := q3.at_ 1 (x := .slice D2 B.h.length d2) rfl; obtain ⟨e2, ef2⟩ := q3.at_ 2 (x := .slice D3 B.w.length d3) rfl; obtain ⟨e3, ef3⟩ := q3.at_ 3 (x := .slice D4 B.f.length d4) rfl; obtain ⟨e4, ef4⟩ := q3.at_ 4 (x := .int .i64 B.n) rfl; obtain ⟨f0, ff0⟩ := r3.at_ 0 (x := .slice none 0 0) rfl; obtain ⟨f1, ff1⟩ := r3.at_ 1 (x := .slice none 0 0) rfl; obtain ⟨f2, ff2⟩ := r3.at_ 2 (x := .slice none 0 0) rfl; obtain ⟨f3, ff3⟩ := r3.at_ 3 (x := .slice none 0 0) rfl; obtain ⟨f4, ff4⟩ := r3.at_ 4 (x := .int .i64 0) rfl; obtain ⟨pm0, pmf0⟩ := p3.at_ 0 (x := .map (some g)) rfl)
    | (go_at_call 87; refine (impl_takeOut g B.w.length D u B.w l _ hM3 HSM.out (HU.out.below hB3) HWL.out).mono ?_; rintro e w4 ⟨rfl, ho4, hM4⟩; rw [HV.out]; have k4 := k3.only ho4 (by simp; omega); have r4 := r3.only ho4 (by simp; omega); have q4 := q3.only ho4 (by simp; omega); obtain ⟨eb0, ebf0⟩ := q4.at_ 0 (x := .slice D1 B.l.length d1) rfl; obtain ⟨eb1, ebf1⟩ := q4.at_ 1 (x := .slice D2 B.h.length d2) rfl; obtain ⟨eb2, ebf2⟩ := q4.at_ 2 (x := .slice D3 B.w.length d3) rfl; obtain ⟨eb3, ebf3⟩ := q4.at_ 3 (x := .slice D4 B.f.length d4) rfl; obtain ⟨eb4, ebf4⟩ := q4.at_ 4 (x := .int .i64 B.n) rfl; obtain ⟨fb0, fbf0⟩ := r4.at_ 0 (x := .slice none 0 0) rfl; obtain ⟨fb1, fbf1⟩ := r4.at_ 1 (x := .slice none 0 0) rfl; obtain ⟨fb2, fbf2⟩ := r4.at_ 2 (x := .slice none 0 0) rfl; obtain ⟨fb3, fbf3⟩ := r4.at_ 3 (x := .slice none 0 0) rfl; obtain ⟨fb4, fbf4⟩ := r4.at_ 4 (x := .int .i64 0) rfl))
  have hO4 := hO3.only1 HN3.out ho4
  have hB4 := hB3.trans (ho4.below (B := w.heap.size) hB3.size (by simp; omega))
  have p4 := p3.only ho4 (by simp; omega)
  obtain ⟨D', hM', hS'⟩ := hM4 wf HTK.out
  have HDEL := Lib.hid (deleteFuncT D3 d3 B.w wf W0.heap.size w2.heap.size g B.w.length D' w4 hO4.q ⟨(p4.at_ 0 (x := .map (some g)) rfl).1, p4.lt, hM', hS'⟩ HN2.out.1 HN2.out.2 HWQ.out (takeAll_self HTK.out))
  have HNR : Hid ((Value.slice D3 B.w.length d3).ownBlock ≠ some (w.heap.size + 1)) := Lib.hid (hO4.neLow (by omega)).2.2.1
  obtain ⟨cc2, ccf2⟩ := q4.at_ 2 (x := .slice D3 B.w.length d3) rfl
  clear n0 n1 n2 n3 n4 nf0 nf1 nf2 nf3 nf4 e0 e1 e2 e3 e4 ef0 ef1 ef2 ef3 ef4 f0 f1 f2 f3 f4 ff0 ff1 ff2 ff3 ff4 eb0 eb1 eb2 eb3 eb4 ebf0 ebf1 ebf2 ebf3 ebf4 fb0 fb1 fb2 fb3 fb4 fbf0 fbf1 fbf2 fbf3 fbf4 s0 s1 s2 s3 s4 pm0 pmf0 hM' hS' hM4 hM3 hMA k2 r2 q2 k3 r3 q3 k4 p3 pA ho4 hO2 hO3 hB2 hB3 hb3
  go_upto_region 6 with (go_at_call 88; refine HDEL.out.mono ?_; rintro e w5 ⟨rfl, h7, hg5, hob⟩; have q5 := q4.grownO hg5 HN1.out.2.2.1; have r5 := r4.grownO hg5 HNR.out; obtain ⟨m2, mf2⟩ := q5.at_ 2 (x := .slice D3 B.w.length d3) rfl)
  have hO5 : OwnBT w5 W0.heap.size (.slice D1 B.l.length d1) (.slice D2 B.h.length d2) (.slice D3 wf.length d3) (.slice D4 B.f.length d4) { B with w := wf } := hO4.putQ (B' := { B with w := wf }) h7 hg5 (.inl hob) rfl rfl rfl
  have hN5 : NeB w1.heap.size (.slice D1 B.l.length d1) (.slice D2 B.h.length d2) (.slice D3 wf.length d3) (.slice D4 B.f.length d4) := ⟨HN1.out.1, HN1.out.2.1, by rw [hob]; exact HN1.out.2.2.1, HN1.out.2.2.2⟩
  have hB5 := hB4.grown hg5 hB4.size (fun k hk => by have := (hO4.q.lt k hk).1; omega)
  have hs5 := hg5.size
  have hql := q5.lt
  obtain ⟨W5, hW5⟩ : ∃ W5, W5 = w5.setCell ⟨w1.heap.size, 2, none⟩ (.slice D3 wf.length d3) := ⟨_, rfl⟩
  have HW5 : Hid (Bk W5 w1.heap.size #[.slice D1 B.l.length d1, .slice D2 B.h.length d2, .slice D3 wf.length d3, .slice D4 B.f.length d4, .int .i64 B.n] 31 ∧ Bk W5 (w.heap.size + 1) #[.slice none 0 0, .slice none 0 0, .slice none 0 0, .slice none 0 0, .int .i64 0] 31 ∧ OwnBT W5 W0.heap.size (.slice D1 B.l.length d1) (.slice D2 B.h.length d2) (.slice D3 wf.length d3) (.slice D4 B.f.length d4) { B with w := wf } ∧ NeB w1.heap.size (.slice D1 B.l.length d1) (.slice D2 B.h.length d2) (.slice D3 wf.length d3) (.slice D4 B.f.length d4) ∧ Below w.heap.size w W5 ∧ W0.heap.size ≤ W5.heap.size ∧ w1.heap.size < W5.heap.size) := Lib.hid (by
    rw [hW5]
    exact ⟨q5.set_ 2 _, r5.far (p := ⟨w1.heap.size, 2, none⟩) (by simp; omega) _, hO5.only1 hN5 (Only.setCell w5 (i := 2) _), hN5, hB5.setCell (p := ⟨w1.heap.size, 2, none⟩) (by show w.heap.size ≤ w1.heap.size; omega) _, by simp only [World.setCell, Array.size_modify]; omega, by simpa [World.setCell] using hql⟩)
  rw [← hW5]
  clear hW5 q5 r5 hO5 hN5 hB5 q4 r4 p4 hO4 hB4 h7 hg5 hob m2 mf2 cc2 ccf2 hs5 hql
  obtain ⟨q6, r6, hO6, hN6, hB6, hsA, hsB⟩ := HW5.out
  obtain ⟨y2, yf2⟩ := q6.at_ 3 (x := .slice D4 B.f.length d4) rfl
  have hf6 : W5.ownsRow W0.heap.size 3 1 (.slice D4 B.f.length d4) B.f.length (ints B.f) := hO6.f
  have hu6 := HU.out.below hB6
  go_upto_region 7 with (at_builtin; refine wpList_append_rd_at _ rfl _ _ 22 rfl W0.heap.size 3 i (.int .i64 0) 1 8 Try.underlying22 hi hiz0 hiz1 hiz2 rfl (by decide) _ _ _ rfl hf6 u l.length (ints l) rfl hu6 (by simp [ints, Value.oneCell']) (by unfold maxLen; omega) (by omega) (by omega) ?_; intro v9 w9 h9 hg9 hloc; obtain ⟨A9, c9, rfl⟩ := owns_form' h9; have q9 := q6.grownO hg9 hN6.2.2.2; obtain ⟨y3, yf3⟩ := q9.at_ 3 (x := .slice D4 B.f.length d4) rfl)
  have r9 := r6.grownO hg9 (hO6.neLow (by omega)).2.2.2
  have hO9 : OwnBT w9 W0.heap.size (.slice D1 B.l.length d1) (.slice D2 B.h.length d2) (.slice D3 wf.length d3) (.slice A9 (B.f.length + l.length) c9) (freeBn B l) := by
    rw [HY.out.1]
    have h10 : w9.ownsRow W0.heap.size 3 1 (.slice A9 (B.f.length + l.length) c9) (B.f ++ l).length (ints (B.f ++ l)) := by simpa [ints] using h9
    exact hO6.putF (B' := { B with w := wf, f := B.f ++ l }) h10 hg9 hloc rfl rfl rfl
  have hN9 : NeB w1.heap.size (.slice D1 B.l.length d1) (.slice D2 B.h.length d2) (.slice D3 wf.length d3) (.slice A9 (B.f.length + l.length) c9) := ⟨hN6.1, hN6.2.1, hN6.2.2.1, ne_new hN6.2.2.2 hloc (by omega)⟩
  have hB9 := hB6.grown hg9 hB6.size (fun k hk => by have := (hO6.f.lt k hk).1; omega)
  have q4 := q9.set_ 3 (.slice A9 (B.f.length + l.length) c9)
  have r4 := r9.far (p := ⟨w1.heap.size, 3, none⟩) (by simp; omega) (.slice A9 (B.f.length + l.length) c9)
  have hO4 := hO9.only1 hN9 (Only.setCell w9 (i := 3) (.slice A9 (B.f.length + l.length) c9))
  have hB4 := hB9.setCell (p := ⟨w1.heap.size, 3, none⟩) (by show w.heap.size ≤ w1.heap.size; omega) (.slice A9 (B.f.length + l.length) c9)
  obtain ⟨W4, hW4⟩ : ∃ W4, W4 = w9.setCell ⟨w1.heap.size, 3, none⟩ (.slice A9 (B.f.length + l.length) c9) := ⟨_, rfl⟩
  rw [← hW4] at q4 r4 hO4 hB4 ⊢
  have HFIN := Lib.hid (And.intro r4 (And.intro hO4 hB4))
  obtain ⟨g0, gf0⟩ := q4.at_ 0 (x := .slice D1 B.l.length d1) rfl
  obtain ⟨g1, gf1⟩ := q4.at_ 1 (x := .slice D2 B.h.length d2) rfl
  obtain ⟨g2, gf2⟩ := q4.at_ 2 (x := .slice D3 wf.length d3) rfl
  obtain ⟨g3, gf3⟩ := q4.at_ 3 (x := .slice A9 (B.f.length + l.length) c9) rfl
  obtain ⟨g4, gf4⟩ := q4.at_ 4 (x := .int .i64 B.n) rfl
  obtain ⟨h0, hf0⟩ := r4.at_ 0 (x := .slice none 0 0) rfl
  obtain ⟨h1, hf1⟩ := r4.at_ 1 (x := .slice none 0 0) rfl
  obtain ⟨h2, hf2⟩ := r4.at_ 2 (x := .slice none 0 0) rfl
  obtain ⟨h3, hf3⟩ := r4.at_ 3 (x := .slice none 0 0) rfl
  obtain ⟨h4, hf4⟩ := r4.at_ 4 (x := .int .i64 0) rfl
  clear hW4 q4 r4 hO4 hB4 q9 r9 hO9 hB9 h9 hg9 hloc y2 yf2 y3 yf3 q6 r6 hO6 hN6 hB6 hf6 hu6
  go_wp2_with fail
  obtain ⟨r4, hO4, hB4⟩ := HFIN.out
  have qF := r4.set5 (.slice D1 B.l.length d1) (.slice D2 B.h.length d2) (.slice D3 wf.length d3) (.slice A9 (B.f.length + l.length) c9) (.int .i64 B.n)
  obtain ⟨zz0, -⟩ := qF.at_ 0 (x := .slice D1 B.l.length d1) rfl
  obtain ⟨zz1, -⟩ := qF.at_ 1 (x := .slice D2 B.h.length d2) rfl
  obtain ⟨zz2, -⟩ := qF.at_ 2 (x := .slice D3 wf.length d3) rfl
  obtain ⟨zz3, -⟩ := qF.at_ 3 (x := .slice A9 (B.f.length + l.length) c9) rfl
  obtain ⟨zz4, -⟩ := qF.at_ 4 (x := .int .i64 B.n) rfl
  refine bodyPost_ret (v := .tuple #[.agg #[.slice D1 B.l.length d1, .slice D2 B.h.length d2, .slice D3 wf.length d3, .slice A9 (B.f.length + l.length) c9, .int .i64 B.n], .bool true]) (by simp [results, Try.results46, go_sem, zz0, zz1, zz2, zz3, zz4]) rfl ?_
  have hR := (hO4.only1 (hO4.neLow (by omega)) (only_set5 _ (w.heap.size + 1) (.slice D1 B.l.length d1) (.slice D2 B.h.length d2) (.slice D3 wf.length d3) (.slice A9 (B.f.length + l.length) c9) (.int .i64 B.n))).ret (w := w) (x := .bool true) (by omega) (below_set5 hB4 (Nat.le_succ _) (.slice D1 B.l.length d1) (.slice D2 B.h.length d2) (.slice D3 wf.length d3) (.slice A9 (B.f.length + l.length) c9) (.int .i64 B.n))
  rw [show (freeBn B l).n = B.n by rw [HY.out.1]] at hR
  rw [HY.out.2]
  exact hR
end Go.Proofs.Ytiamkgkhamnaeaa
