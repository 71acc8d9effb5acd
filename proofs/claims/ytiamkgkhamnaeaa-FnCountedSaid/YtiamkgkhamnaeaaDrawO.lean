/- Contract of the draw of a script of operations (spec.l10DrawOps). Condition: the cursor can be read. -/
import Derived.Test.YtiamkgkhamnaeaaDraw
import Derived.Test.YtiamkgkhamnaeaaNC6
import Derived.Test.YtiamkgkhamnaeaaNC7
import Derived.Deep.CutBlock
namespace Go.Proofs.Ytiamkgkhamnaeaa
set_option maxRecDepth 20000
set_option linter.unusedSimpArgs false
set_option linter.unusedVariables false
open Go.ChangeShapes Go.WideShapes Go.ChangeAt Go.RowKit
set_option linter.unusedVariables false
theorem infoOp3 : (Try.prog.info? 35).map (fun i => (i.zero, i.size, i.bytes)) = some (some (.agg #[.int .i64 0, .int .i64 0, .int .i64 0]), 3, 24) := by kernel_rfl
theorem owns_curO {w w2 : World} {base g : Nat} {e : TypeId} {size n : Nat} {v : Value} {xs : List Value} (h : w.ownsRow base e size v n xs) (ho : Only [g] w w2) (hg : g < base) : w2.ownsRow base e size v n xs := by
  obtain ⟨hl, ⟨rfl, rfl⟩ | ⟨q, cap, cur, rfl, h1, hq, h2⟩⟩ := h
  · exact ⟨hl, .inl ⟨rfl, rfl⟩⟩
  · exact ⟨hl, .inr ⟨q, cap, cur, rfl, h1, (ho.block q (Array.getElem?_eq_some_iff.1 hq).1 (by simp; omega)).trans hq, h2⟩⟩
/-- while a script is drawn: the cursor, the bench that is played along (in its box at p, its rows bs), the script so far -/
structure St (lo g p : Nat) (w0 : World) (a b c d : Value) (B : Bn) (bs : List Nat) (v : Value) (L : List O3) (w : World) : Prop where
  cur : Cur lo w g
  box : Bk w p #[a, b, c, d, .int .i64 B.n] 31
  own : OwnBn w a b c d B bs
  row : w.ownsRow w0.heap.size 35 3 v L.length (flc3 L)
  ne : ∀ y ∈ bs, v.ownBlock ≠ some y
  nep : v.ownBlock ≠ some p
  low : ∀ y ∈ bs, w0.heap.size ≤ y ∧ y ≠ p
  only : Only [g] w0 w
  hg : g < w0.heap.size
  hp : w0.heap.size ≤ p
section
variable {lo g p : Nat} {w0 w w' : World} {a b c d : Value} {B : Bn} {bs : List Nat} {v : Value} {L : List O3}
theorem St.go (h : St lo g p w0 a b c d B bs v L w) (hc : Cur lo w' g) (ho : Only [g] w w') : St lo g p w0 a b c d B bs v L w' :=
  ⟨hc, h.box.only ho (by have := h.hg; have := h.hp; simp; omega), h.own.only ho (fun y hy hm => by have := (h.low y hy).1; have := h.hg; have := List.mem_singleton.1 hm; omega), owns_curO h.row ho h.hg, h.ne, h.nep, h.low, h.only.trans ho, h.hg, h.hp⟩
theorem St.below (h : St lo g p w0 a b c d B bs v L w) (hb : Below w.heap.size w w') : St lo g p w0 a b c d B bs v L w' := h.go (h.cur.below hb) (Only.of_below hb _)
theorem St.alloc (h : St lo g p w0 a b c d B bs v L w) (o : Obj) : St lo g p w0 a b c d B bs v L (w.alloc o) := h.below ((Below.refl _ _).alloc (Nat.le_refl _) o)
theorem St.drew (h : St lo g p w0 a b c d B bs v L w) : St lo g p w0 a b c d B bs v L w.drew := h.below (Below.refl _ _).drew
theorem St.size (h : St lo g p w0 a b c d B bs v L w) : p < w.heap.size ∧ w0.heap.size ≤ w.heap.size ∧ (∀ y ∈ bs, y < w.heap.size) ∧ (∀ y, v.ownBlock = some y → y < w.heap.size) :=
  ⟨h.box.lt, h.only.size, h.own.lt, fun y hy => (h.row.lt y hy).2⟩
/-- block q is none of these -/
def Fr (p : Nat) (w0 : World) (bs : List Nat) (v : Value) (q : Nat) : Prop := p ≠ q ∧ w0.heap.size ≤ q ∧ (∀ y ∈ bs, y ≠ q) ∧ v.ownBlock ≠ some q
theorem St.fresh (h : St lo g p w0 a b c d B bs v L w) : Fr p w0 bs v w.heap.size :=
  ⟨by have := h.size.1; omega, h.size.2.1, fun y hy => by have := h.size.2.2.1 y hy; omega, fun e => by have := h.size.2.2.2 _ e; omega⟩
theorem St.far (h : St lo g p w0 a b c d B bs v L w) {q i : Nat} (hq : Fr p w0 bs v q) (u : Value) : St lo g p w0 a b c d B bs v L (w.setCell ⟨q, i, none⟩ u) :=
  ⟨h.cur.only (Only.setCell w u) (by have := h.hg; have := hq.2.1; simp; omega), h.box.far (p := ⟨q, i, none⟩) hq.1 u, h.own.far hq.2.2.1, owns_ne h.row hq.2.2.2 (Only.setCell w u), h.ne, h.nep, h.low,
    h.only.thenBelow ((Below.refl w0.heap.size w).setCell (p := ⟨q, i, none⟩) hq.2.1 u) (Nat.le_refl _), h.hg, h.hp⟩
/-- the script grows by one operation -/
theorem St.append {v' : Value} {q : O3} {o : Obj} (h : St lo g p w0 a b c d B bs v L w) (hO : w'.ownsRow w0.heap.size 35 3 v' (L.length + 1) (flc3 L ++ o3C q)) (hg : (w.alloc o).grownBy w' v.ownBlock) (hloc : v'.ownBlock = v.ownBlock ∨ v'.ownBlock = some (w.alloc o).heap.size) :
    St lo g p w0 a b c d B bs v' (L ++ [q]) w' := by
  have hsz := h.size
  have hbA := (Below.refl w0.heap.size w).alloc hsz.2.1 o
  have hb : Below w0.heap.size w w' := hbA.grown hg (by simp; omega) (fun k hk => (h.row.lt k hk).1)
  refine ⟨h.cur.belowB hb h.hg, (h.box.alloc o).grownO hg h.nep, (h.own.below ((Below.refl _ _).alloc (Nat.le_refl _) o)).of_blocks hg.size (fun y hy => hg.block y (by have := hsz.2.2.1 y hy; simp; omega) (fun e => h.ne y hy e.symm)), ?_, fun y hy e => ?_, fun e => ?_, h.low, h.only.thenBelow hb (Nat.le_refl _), h.hg, h.hp⟩
  · have e : flc3 (L ++ [q]) = flc3 L ++ o3C q := by rw [flc3_append]; rfl
    rw [e, List.length_append]
    exact hO
  · rcases hloc with h1 | h1
    · exact h.ne y hy (h1 ▸ e)
    · rw [h1] at e
      have := Option.some.inj e
      have := hsz.2.2.1 y hy
      simp at *
      omega
  · rcases hloc with h1 | h1
    · exact h.nep (h1 ▸ e)
    · rw [h1] at e
      have := Option.some.inj e
      simp at *
      omega
/-- another bench in the box -/
theorem St.put {a' b' c' d' : Value} {B' : Bn} {bs' : List Nat} (h : St lo g p w0 a b c d B bs v L w) (hb : Below w.heap.size w w') (hO : OwnBn w' a' b' c' d' B' bs') (hbs : ∀ y ∈ bs', w.heap.size ≤ y) :
    St lo g p w0 a' b' c' d' B' bs' v L (((((w'.setCell ⟨p, 0, none⟩ a').setCell ⟨p, 1, none⟩ b').setCell ⟨p, 2, none⟩ c').setCell ⟨p, 3, none⟩ d').setCell ⟨p, 4, none⟩ (.int .i64 B'.n)) := by
  have h1 := h.below hb
  have hsz := h.size
  have ho := only_set5 w' p a' b' c' d' (.int .i64 B'.n)
  refine ⟨h1.cur.only ho (by have := h.hg; have := h.hp; simp; omega), h1.box.set5 _ _ _ _ _, hO.only ho (fun y hy hm => by have := hbs y hy; have := List.mem_singleton.1 hm; omega), owns_ne h1.row h.nep ho, fun y hy e => by have := hbs y hy; have := hsz.2.2.2 y e; omega, h.nep,
    fun y hy => ⟨by have := hbs y hy; omega, by have := hbs y hy; omega⟩, h1.only.thenBelow (below_set5 (Below.refl _ _) h.hp a' b' c' d' (.int .i64 B'.n)) (Nat.le_refl _), h.hg, h.hp⟩
end
set_option maxHeartbeats 6400000 in
theorem l10DrawOps (g n : Nat) (w : World) {lo : Nat} (h : Cur lo w g) (hn : n ≤ 70) :
    Calls Try.prog 108 #[.pointer (some ⟨g, 0, none⟩), .int .i64 n] w fun e w' => ∃ v L, e = .returned v ∧ List.length L ≤ n + 5 ∧ w'.ownsRow w.heap.size 35 3 v L.length (flc3 L) ∧ Cur lo w' g ∧ Only [g] w w' := by
  obtain ⟨i, hi, hiz0, hiz1, hiz2⟩ := info_parts infoOp3
  have hg := h.lt
  have hS0 : St lo g (w.heap.size + 1) w (.slice none 0 0) (.slice none 0 0) (.slice none 0 0) (.slice none 0 0) bn0 [] (.slice (some ⟨w.heap.size, 0, none⟩) 0 0) [] ((w.alloc (.cells #[] 35)).alloc (.cells #[.slice none 0 0, .slice none 0 0, .slice none 0 0, .slice none 0 0, .int .i64 1] 31)) := by
    have hb : Below w.heap.size w ((w.alloc (.cells #[] 35)).alloc (.cells #[.slice none 0 0, .slice none 0 0, .slice none 0 0, .slice none 0 0, .int .i64 1] 31)) := ((Below.refl _ _).alloc (Nat.le_refl _) _).alloc (by simp) _
    have hk := Bk.new (w.alloc (.cells #[] 35)) #[.slice none 0 0, .slice none 0 0, .slice none 0 0, .slice none 0 0, .int .i64 1] 31
    simp only [World.size_alloc] at hk
    exact ⟨h.below hb, hk, own0 _, (World.ownsRow_lit w #[] 0 (Nat.le_refl _) (by simp [maxLen]) rfl).alloc _, by simp, fun e => by have := Option.some.inj (show some w.heap.size = some (w.heap.size + 1) from e); omega, by simp, Only.of_below hb _, hg, by omega⟩
  go_enter Try.func108, Try.ntmps108
  go_wp2_with fail
  go_loopw [5, 7] (fun vo tv wr => ∃ (k : Nat) (L : List O3), k ≤ 5 ∧ tv = .int .i64 k ∧ L.length ≤ k ∧ St lo g (w.heap.size + 1) w (.slice none 0 0) (.slice none 0 0) (.slice none 0 0) (.slice none 0 0) bn0 [] vo L wr) (fun _ tv _ => 5 - (intOf tv).toNat)
  case atStart => exact ⟨0, [], Nat.zero_le _, rfl, Nat.le_refl _, hS0⟩
  case round =>
    obtain ⟨k, L, hk, rfl, hL, hS⟩ := hrel
    clear hS0
    by_cases hlt : k < 5
    · go_wp2_with fail
      refine (l01Below g 4 _ hS.cur (WalkArith.wf_i64 (by omega))).mono ?_
      rintro e w3 ⟨x, ⟨x0, x1⟩, rfl, hc3, ho3⟩
      have hS3 := hS.go hc3 ho3
      clear hS hc3 ho3 x1
      by_cases hx : 0 < x
      · by_cases h6 : 6 < n
        · have hO3 := hS3.row
          have hz3 := hS3.size.2.1
          obtain ⟨AO, cO, rfl⟩ := owns_form' hO3
          go_wp2_with (at_builtin; refine wpList_append_own_at _ rfl _ _ 44 rfl w.heap.size 35 i (.agg #[.int .i64 0, .int .i64 0, .int .i64 0]) 3 24 Try.underlying44 hi hiz0 hiz1 hiz2 rfl (by decide) _ _ _ rfl (hO3.alloc _) ⟨w3.heap.size, 0, none⟩ 1 1 [.int .i64 4, .int .i64 k, .int .i64 0] rfl rfl (new_cells _ _ _) (by simp [Value.oneCell']) (by unfold maxLen; omega) (by omega) (by simp; omega) ?_; intro v9 w9 h9 hg9 _ hloc; have hS9 := hS3.append (q := ⟨4, k, 0⟩) h9 hg9 hloc)
          exact ⟨⟨k + 1, L ++ [⟨4, k, 0⟩], by omega, by go_num, by simp; omega, hS9⟩, by simp [intOf]; omega⟩
        · go_wp2_with fail
          exact ⟨⟨k + 1, L, by omega, by go_num, by omega, hS3⟩, by simp [intOf]; omega⟩
      · go_wp2_with fail
        exact ⟨⟨k + 1, L, by omega, by go_num, by omega, hS3⟩, by simp [intOf]; omega⟩
    · obtain rfl : k = 5 := by omega
      have hL5 := hL
      have HS5 := Lib.hid hS
      clear hL hlt hk hS
      rw [show ((5 : Nat) : Int) = 5 from rfl]
      go_wp2_with fail
      go_loopw [5, 8] (fun vo iv wr => ∃ (k : Nat) (L : List O3) (a b c d : Value) (B : Bn) (bs : List Nat), k ≤ n ∧ iv = .int .i64 k ∧ L.length ≤ k + 5 ∧ bnOk B = true ∧ Hid (St lo g (w.heap.size + 1) w a b c d B bs vo L wr)) (fun _ iv _ => n - (intOf iv).toNat)
      case atStart => exact ⟨0, L, _, _, _, _, bn0, [], Nat.zero_le _, rfl, by omega, bn0_ok, HS5⟩
      case round =>
        obtain ⟨k, L, a, b, c, d, B, bs, hk, rfl, hL, hok, HS⟩ := hrel
        clear HS5
        by_cases hlt : k < n
        · have hS6 := HS.out.alloc (.cells #[.int .i64 0, .int .i64 0, .int .i64 1, .int .i64 1, .int .i64 1, .int .i64 1, .int .i64 2, .int .i64 2, .int .i64 2, .int .i64 3, .int .i64 3, .int .i64 4, .int .i64 5, .int .i64 6, .int .i64 6] 3)
          have HP : Hid (Rd (wr.alloc (.cells #[.int .i64 0, .int .i64 0, .int .i64 1, .int .i64 1, .int .i64 1, .int .i64 1, .int .i64 2, .int .i64 2, .int .i64 2, .int .i64 3, .int .i64 3, .int .i64 4, .int .i64 5, .int .i64 6, .int .i64 6] 3)) (.slice (some ⟨wr.heap.size, 0, none⟩) 15 15) 1 15 (ints [0, 0, 1, 1, 1, 1, 2, 2, 2, 3, 3, 4, 5, 6, 6])) := Lib.hid (by exact rd_lit wr [0, 0, 1, 1, 1, 1, 2, 2, 2, 3, 3, 4, 5, 6, 6] 3 (by simp))
          have hgw : g < wr.heap.size := HS.out.cur.lt
          go_wp2_with fail
          refine (l01PickInt g _ [0, 0, 1, 1, 1, 1, 2, 2, 2, 3, 3, 4, 5, 6, 6] _ hS6.cur HP.out (by simp) (by intro A n c he ad ha; injection he with e1; subst e1; injection ha with ha; subst ha; simp; omega)).mono ?_
          rintro e w6 ⟨z, hz, rfl, hcu6, hon6⟩
          have hS7 := hS6.go hcu6 hon6
          clear hcu6 hon6 hS6 HP
          go_wp2_with fail
          refine (l01Below g 5 _ hS7.cur (WalkArith.wf_i64 (by omega))).mono ?_
          rintro e w7 ⟨y, ⟨y0, y1⟩, rfl, hcu7, hon7⟩
          have hS8 := hS7.go hcu7 hon7
          clear hcu7 hon7 hS7 y1
          have hfr := hS8.fresh
          have hS9 := hS8.alloc (.cells #[.int .i64 z, .int .i64 y, .int .i64 0] 35)
          have q9 := Bk.new w7 #[.int .i64 z, .int .i64 y, .int .i64 0] 35
          obtain ⟨W9, hW9⟩ : ∃ W9, W9 = w7.alloc (.cells #[.int .i64 z, .int .i64 y, .int .i64 0] 35) := ⟨_, rfl⟩
          rw [← hW9] at hS9 q9
          have HW9 := Lib.hid hW9
          obtain ⟨m0, -⟩ := q9.at_ 0 (x := .int .i64 z) rfl
          have hg9 : g < w.heap.size := hg
          clear hW9 hS8
          go_upto_region 12 with (fail)
          rw [← HW9.out]
          go_upto_block 4 with (fail)
          have hsm := bnOk_small (bnOk_iff.1 hok)
          have hsh := bnOk_held (bnOk_iff.1 hok)
          have hpg : g < w.heap.size + 1 := by omega
          have hqg : g < w7.heap.size := by have := hfr.2.1; omega
          obtain ⟨A1, c1, A2, c2, A3, c3, A4, c4, rfl, rfl, rfl, rfl⟩ := hS9.own.formV
          go_cut [] (fun wz => ∃ q : O3, St lo g (w.heap.size + 1) w (.slice A1 B.l.length c1) (.slice A2 B.h.length c2) (.slice A3 B.w.length c3) (.slice A4 B.f.length c4) B bs u5 L wz ∧ Bk wz w7.heap.size #[.int .i64 q.k, .int .i64 q.t, .int .i64 q.x] 35)
          case first =>
            obtain ⟨⟨t0, t1, t2, t3, t4⟩, -⟩ := five hS9.box
            by_cases h13 : z = 1 ∨ z = 3
            · by_cases hl0 : 0 < B.l.length
              · have hl0' : (0 : Int) < B.l.length := by omega
                rcases h13 with rfl | rfl
                all_goals
                  go_upto_region 16 with (fail)
                  clear t0 t1 t2 t3 t4 m0
                  obtain ⟨⟨t0, t1, t2, t3, t4⟩, -⟩ := five hS9.box
                  have hpl := hS9.box.lt
                  have P0 := fun q : PastO [g] W9 => PastO.cell hpl (by simp; omega) t0 q
                  have P1 := fun q : PastO [g] W9 => PastO.cell hpl (by simp; omega) t1 q
                  clear t0 t1 t2 t3 t4
                  refine wp_region_two 10 10 (fun w' => ∃ q : PastO [g] W9, w' = q.v) (fun _ => True) (by kernel_rfl) ?_
                  obtain ⟨w0, hw0⟩ : ∃ w0, w0 = W9.drew := ⟨_, rfl⟩
                  have T0 : Hid (Below W9.heap.size W9 w0) := Lib.hid (by rw [hw0]; exact (Below.refl _ _).drew)
                  rw [← hw0]
                  clear hw0
                  refine wpAnyX_pass (C := (fun w' => ∃ q : PastO [g] W9, w' = q.v)) (some false) [true, true, true, true, true] rfl (by kernel_rfl) (fun _ _ t _ _ h => by cases t <;> exact h) ⟨fun _ => ⟨⟨w0, Only.of_below T0.out _⟩, rfl⟩, fun _ => trivial⟩ ?_
                  simp only [keepOps]
                  repeat (go_big_quiet_step (fail))
                  refine wpQuiet_nil ?_
                  clear P0 P1
                  refine wpAnyX_one 5 rfl (by kernel_rfl) (by kernel_rfl) ?_
                  go_wp2_with fail
                  refine ⟨⟨fun _ => ⟨⟨w0, Only.of_below T0.out _⟩, rfl⟩, fun _ => trivial⟩, ?_⟩
                  refine wpAnyX_one 6 rfl (by kernel_rfl) (by kernel_rfl) ?_
                  go_wp2_with fail
                  have S0 := hS9.below T0.out
                  refine (l01Below g B.l.length _ S0.cur (WalkArith.wf_i64 (by omega))).mono ?_
                  rintro e w2 ⟨j, ⟨j0, j1⟩, rfl, hc2, ho2⟩
                  have S2 := S0.go hc2 ho2
                  have q2 := (q9.below T0.out q9.lt).only ho2 (by simp; omega)
                  obtain ⟨j, rfl⟩ := Int.eq_ofNat_of_zero_le j0
                  have hj : j < B.l.length := by omega
                  obtain ⟨A', c', he, -, -, -, hr9⟩ := S2.own.rd.l
                  injection he with e1 e3 e2
                  subst e1 e2
                  clear e3
                  obtain ⟨b9, o9, rfl, hb9, hcell9⟩ := hr9 (by omega)
                  obtain ⟨x, hxk, hx⟩ := int_at hcell9 hj
                  clear hcell9 hr9 j0 j1 hc2
                  try dsimp only
                  go_wp2_with fail
                  refine ⟨⟨fun _ => ⟨⟨w2, (Only.of_below T0.out _).trans ho2⟩, rfl⟩, fun _ => trivial⟩, ?_⟩
                  refine wpAnyX_one 7 rfl (by kernel_rfl) (by kernel_rfl) ?_
                  go_wp2_with fail
                  refine ⟨⟨fun _ => ⟨⟨w2, (Only.of_below T0.out _).trans ho2⟩, rfl⟩, fun _ => trivial⟩, ?_⟩
                  refine wpAnyX_one 8 rfl (by kernel_rfl) (by kernel_rfl) ?_
                  go_wp2_with fail
                  refine ⟨⟨fun _ => ⟨⟨w2, (Only.of_below T0.out _).trans ho2⟩, rfl⟩, fun _ => trivial⟩, ?_⟩
                  refine wpAnyX_one 9 rfl (by kernel_rfl) (by kernel_rfl) ?_
                  go_wp2_with fail
                  refine ⟨⟨fun _ => ⟨⟨w2, (Only.of_below T0.out _).trans ho2⟩, rfl⟩, fun _ => trivial⟩, ?_⟩
                  obtain ⟨u2, uf2⟩ := q2.at_ 2 (x := .int .i64 0) rfl
                  refine wpAnyX_one 10 rfl (by kernel_rfl) (by kernel_rfl) ?_
                  go_wp2_with fail
                  refine ⟨⟨fun h => absurd (show true = false from h) (by decide), fun _ => trivial⟩, ?_⟩
                  refine wpAnyX_done (by kernel_rfl) ?_
                  try dsimp only
                  go_wp2_with fail
                  go_meet
                  exact ⟨⟨_, y, x⟩, S2.far hfr _, q2.set_ 2 _⟩
              · have hl0' : ¬ (0 : Int) < B.l.length := by omega
                rcases h13 with rfl | rfl
                all_goals
                  go_wp2_with fail
                  go_meet
                  exact ⟨⟨_, y, 0⟩, hS9, q9⟩
            · have e1 : (z == 1) = false := by simp; omega
              have e3 : (z == 3) = false := by simp; omega
              by_cases h2 : z = 2
              · subst h2
                by_cases hl0 : 0 < B.h.length
                · have hl0' : (0 : Int) < B.h.length := by omega
                  go_upto_region 19 with (fail)
                  clear t0 t1 t2 t3 t4 m0
                  obtain ⟨⟨t0, t1, t2, t3, t4⟩, -⟩ := five hS9.box
                  have hpl := hS9.box.lt
                  have P0 := fun q : PastO [g] W9 => PastO.cell hpl (by simp; omega) t0 q
                  have P1 := fun q : PastO [g] W9 => PastO.cell hpl (by simp; omega) t1 q
                  clear t0 t1 t2 t3 t4
                  refine wp_region_two 10 10 (fun w' => ∃ q : PastO [g] W9, w' = q.v) (fun _ => True) (by kernel_rfl) ?_
                  obtain ⟨w0, hw0⟩ : ∃ w0, w0 = W9.drew := ⟨_, rfl⟩
                  have T0 : Hid (Below W9.heap.size W9 w0) := Lib.hid (by rw [hw0]; exact (Below.refl _ _).drew)
                  rw [← hw0]
                  clear hw0
                  refine wpAnyX_pass (C := (fun w' => ∃ q : PastO [g] W9, w' = q.v)) (some false) [true, true, true, true, true] rfl (by kernel_rfl) (fun _ _ t _ _ h => by cases t <;> exact h) ⟨fun _ => ⟨⟨w0, Only.of_below T0.out _⟩, rfl⟩, fun _ => trivial⟩ ?_
                  simp only [keepOps]
                  repeat (go_big_quiet_step (fail))
                  refine wpQuiet_nil ?_
                  clear P0 P1
                  have S0 := Lib.hid (hS9.below T0.out)
                  have Q0 := Lib.hid (q9.below T0.out q9.lt)
                  have O0 : Hid (Only [g] W9 w0) := Lib.hid (Only.of_below T0.out _)
                  refine wpAnyX_two 5 9 rfl rfl (by kernel_rfl) (by kernel_rfl) ?_ ?_
                  · skip
                    go_wp2_with fail
                    refine ⟨⟨fun _ => ⟨⟨w0, O0.out⟩, rfl⟩, fun _ => trivial⟩, ?_⟩
                    refine wpAnyX_two 6 9 rfl rfl (by kernel_rfl) (by kernel_rfl) ?_ ?_
                    · skip
                      go_wp2_with fail
                      refine (l01Below g B.h.length _ S0.out.cur (WalkArith.wf_i64 (by omega))).mono ?_
                      rintro e wd1 ⟨j, ⟨j0, j1⟩, rfl, hc2, ho2⟩
                      have S1 := Lib.hid (S0.out.go hc2 ho2)
                      have Q1 := Lib.hid (Q0.out.only ho2 (by simp; omega))
                      have O1 := Lib.hid (O0.out.trans ho2)
                      obtain ⟨j, rfl⟩ := Int.eq_ofNat_of_zero_le j0
                      have hj : j < B.h.length := by omega
                      obtain ⟨A', c', he, -, -, -, hr9⟩ := S1.out.own.rd.h
                      injection he with e1 e3 e2
                      subst e1 e2
                      clear e3
                      obtain ⟨b9, o9, rfl, hb9, hcell9⟩ := hr9 (by omega)
                      obtain ⟨e9, hxk, hx, hx'⟩ := p2_at hcell9 hj
                      have hb9' := hb9
                      clear hcell9 hr9 j0 j1 hc2 ho2
                      try dsimp only
                      go_wp2_with fail
                      refine ⟨⟨fun _ => ⟨⟨wd1, O1.out⟩, rfl⟩, fun _ => trivial⟩, ?_⟩
                      refine wpAnyX_two 7 9 rfl rfl (by kernel_rfl) (by kernel_rfl) ?_ ?_
                      · skip
                        go_wp2_with fail
                        refine ⟨⟨fun _ => ⟨⟨wd1, O1.out⟩, rfl⟩, fun _ => trivial⟩, ?_⟩
                        refine wpAnyX_two 8 9 rfl rfl (by kernel_rfl) (by kernel_rfl) ?_ ?_
                        · skip
                          go_wp2_with fail
                          refine ⟨⟨fun _ => ⟨⟨wd1, O1.out⟩, rfl⟩, fun _ => trivial⟩, ?_⟩
                          refine wpAnyX_one 9 rfl (by kernel_rfl) (by kernel_rfl) ?_
                          go_wp2_with fail
                          have hal := (Below.refl wd1.heap.size wd1).alloc (Nat.le_refl _) (.cells #[.int .i64 0, .int .i64 0] 92)
                          have hsA : wd1.heap.size < (wd1.alloc (.cells #[.int .i64 0, .int .i64 0] 92)).heap.size := by simp
                          have kh := Bk.new wd1 #[.int .i64 0, .int .i64 0] 92
                          have HF := Lib.hid S1.out.fresh
                          have hhq : w7.heap.size < wd1.heap.size := Q1.out.lt
                          have hgA : g < wd1.heap.size := S1.out.cur.lt
                          obtain ⟨wA2, hwA⟩ : ∃ wA, wA = wd1.alloc (.cells #[.int .i64 0, .int .i64 0] 92) := ⟨_, rfl⟩
                          rw [← hwA] at hal kh hsA
                          rw [← hwA]
                          have S2 := Lib.hid (S1.out.below hal)
                          have Q2 := Lib.hid (Q1.out.below hal Q1.out.lt)
                          have O2 := Lib.hid (O1.out.trans (Only.of_below hal [g]))
                          have K2 := Lib.hid kh
                          have hx := (hal.cell (p := ⟨b9, o9 + j * 2, none⟩) hb9').trans hx
                          have hx' := (hal.cell (p := ⟨b9, o9 + j * 2 + 1, none⟩) hb9').trans hx'
                          have hb9' : b9 < wA2.heap.size := by omega
                          clear hwA hal kh
                          refine ⟨⟨fun _ => ⟨⟨wA2, O2.out⟩, rfl⟩, fun _ => trivial⟩, ?_⟩
                          obtain ⟨u0, uf0⟩ := K2.out.at_ 0 (x := .int .i64 0) rfl
                          obtain ⟨u1, uf1⟩ := K2.out.at_ 1 (x := .int .i64 0) rfl
                          refine wpAnyX_one 10 rfl (by kernel_rfl) (by kernel_rfl) ?_
                          go_wp2_with fail
                          refine ⟨⟨fun h => absurd (show true = false from h) (by decide), fun _ => trivial⟩, ?_⟩
                          refine wpAnyX_done (by kernel_rfl) ?_
                          try dsimp only
                          have kh4 := (K2.out.set_ 0 (.int .i64 e9.a)).set_ 1 (.int .i64 e9.b)
                          have q4 := (Q2.out.far (p := ⟨wd1.heap.size, 0, none⟩) (by simp; omega) (.int .i64 e9.a)).far (p := ⟨wd1.heap.size, 1, none⟩) (by simp; omega) (.int .i64 e9.b)
                          have S4 := (S2.out.far (i := 0) HF.out (.int .i64 e9.a)).far (i := 1) HF.out (.int .i64 e9.b)
                          obtain ⟨W4, hW4⟩ : ∃ W4, W4 = (wA2.setCell ⟨wd1.heap.size, 0, none⟩ (.int .i64 e9.a)).setCell ⟨wd1.heap.size, 1, none⟩ (.int .i64 e9.b) := ⟨_, rfl⟩
                          rw [← hW4] at kh4 q4 S4
                          have HW4 := Lib.hid hW4
                          clear hW4 u0 u1 uf0 uf1
                          obtain ⟨v0, -⟩ := kh4.at_ 0 (x := .int .i64 e9.a) rfl
                          obtain ⟨v1, -⟩ := kh4.at_ 1 (x := .int .i64 e9.b) rfl
                          obtain ⟨r1, rf1⟩ := q4.at_ 1 (x := .int .i64 y) rfl
                          obtain ⟨r2, rf2⟩ := q4.at_ 2 (x := .int .i64 0) rfl
                          have hnq : w7.heap.size ≠ wd1.heap.size := by omega
                          go_upto_region 20 with (fail)
                          rw [← HW4.out]
                          go_wp2_with fail
                          go_meet
                          exact ⟨⟨2, e9.a, e9.b⟩, (S4.far hfr _).far hfr _, (q4.set_ 1 (.int .i64 e9.a)).set_ 2 (.int .i64 e9.b)⟩
                        · skip
                          go_wp2_with fail
                          have hal := (Below.refl wd1.heap.size wd1).alloc (Nat.le_refl _) (.cells #[.int .i64 0, .int .i64 0] 92)
                          have hsA : wd1.heap.size < (wd1.alloc (.cells #[.int .i64 0, .int .i64 0] 92)).heap.size := by simp
                          have kh := Bk.new wd1 #[.int .i64 0, .int .i64 0] 92
                          have HF := Lib.hid S1.out.fresh
                          have hhq : w7.heap.size < wd1.heap.size := Q1.out.lt
                          have hgA : g < wd1.heap.size := S1.out.cur.lt
                          obtain ⟨wA3, hwA⟩ : ∃ wA, wA = wd1.alloc (.cells #[.int .i64 0, .int .i64 0] 92) := ⟨_, rfl⟩
                          rw [← hwA] at hal kh hsA
                          rw [← hwA]
                          have S3 := Lib.hid (S1.out.below hal)
                          have Q3 := Lib.hid (Q1.out.below hal Q1.out.lt)
                          have O3 := Lib.hid (O1.out.trans (Only.of_below hal [g]))
                          have K3 := Lib.hid kh
                          have hx := (hal.cell (p := ⟨b9, o9 + j * 2, none⟩) hb9').trans hx
                          have hx' := (hal.cell (p := ⟨b9, o9 + j * 2 + 1, none⟩) hb9').trans hx'
                          have hb9' : b9 < wA3.heap.size := by omega
                          clear hwA hal kh
                          refine ⟨⟨fun _ => ⟨⟨wA3, O3.out⟩, rfl⟩, fun _ => trivial⟩, ?_⟩
                          refine wpAnyX_one 8 rfl (by kernel_rfl) (by kernel_rfl) ?_
                          go_wp2_with fail
                          refine ⟨⟨fun _ => ⟨⟨wA3, O3.out⟩, rfl⟩, fun _ => trivial⟩, ?_⟩
                          obtain ⟨u0, uf0⟩ := K3.out.at_ 0 (x := .int .i64 0) rfl
                          obtain ⟨u1, uf1⟩ := K3.out.at_ 1 (x := .int .i64 0) rfl
                          refine wpAnyX_one 10 rfl (by kernel_rfl) (by kernel_rfl) ?_
                          go_wp2_with fail
                          refine ⟨⟨fun h => absurd (show true = false from h) (by decide), fun _ => trivial⟩, ?_⟩
                          refine wpAnyX_done (by kernel_rfl) ?_
                          try dsimp only
                          have kh4 := (K3.out.set_ 0 (.int .i64 e9.a)).set_ 1 (.int .i64 e9.b)
                          have q4 := (Q3.out.far (p := ⟨wd1.heap.size, 0, none⟩) (by simp; omega) (.int .i64 e9.a)).far (p := ⟨wd1.heap.size, 1, none⟩) (by simp; omega) (.int .i64 e9.b)
                          have S4 := (S3.out.far (i := 0) HF.out (.int .i64 e9.a)).far (i := 1) HF.out (.int .i64 e9.b)
                          obtain ⟨W4, hW4⟩ : ∃ W4, W4 = (wA3.setCell ⟨wd1.heap.size, 0, none⟩ (.int .i64 e9.a)).setCell ⟨wd1.heap.size, 1, none⟩ (.int .i64 e9.b) := ⟨_, rfl⟩
                          rw [← hW4] at kh4 q4 S4
                          have HW4 := Lib.hid hW4
                          clear hW4 u0 u1 uf0 uf1
                          obtain ⟨v0, -⟩ := kh4.at_ 0 (x := .int .i64 e9.a) rfl
                          obtain ⟨v1, -⟩ := kh4.at_ 1 (x := .int .i64 e9.b) rfl
                          obtain ⟨r1, rf1⟩ := q4.at_ 1 (x := .int .i64 y) rfl
                          obtain ⟨r2, rf2⟩ := q4.at_ 2 (x := .int .i64 0) rfl
                          have hnq : w7.heap.size ≠ wd1.heap.size := by omega
                          go_upto_region 20 with (fail)
                          rw [← HW4.out]
                          go_wp2_with fail
                          go_meet
                          exact ⟨⟨2, e9.a, e9.b⟩, (S4.far hfr _).far hfr _, (q4.set_ 1 (.int .i64 e9.a)).set_ 2 (.int .i64 e9.b)⟩
                      · skip
                        go_wp2_with fail
                        have hal := (Below.refl wd1.heap.size wd1).alloc (Nat.le_refl _) (.cells #[.int .i64 0, .int .i64 0] 92)
                        have hsA : wd1.heap.size < (wd1.alloc (.cells #[.int .i64 0, .int .i64 0] 92)).heap.size := by simp
                        have kh := Bk.new wd1 #[.int .i64 0, .int .i64 0] 92
                        have HF := Lib.hid S1.out.fresh
                        have hhq : w7.heap.size < wd1.heap.size := Q1.out.lt
                        have hgA : g < wd1.heap.size := S1.out.cur.lt
                        obtain ⟨wA4, hwA⟩ : ∃ wA, wA = wd1.alloc (.cells #[.int .i64 0, .int .i64 0] 92) := ⟨_, rfl⟩
                        rw [← hwA] at hal kh hsA
                        rw [← hwA]
                        have S4 := Lib.hid (S1.out.below hal)
                        have Q4 := Lib.hid (Q1.out.below hal Q1.out.lt)
                        have O4 := Lib.hid (O1.out.trans (Only.of_below hal [g]))
                        have K4 := Lib.hid kh
                        have hx := (hal.cell (p := ⟨b9, o9 + j * 2, none⟩) hb9').trans hx
                        have hx' := (hal.cell (p := ⟨b9, o9 + j * 2 + 1, none⟩) hb9').trans hx'
                        have hb9' : b9 < wA4.heap.size := by omega
                        clear hwA hal kh
                        refine ⟨⟨fun _ => ⟨⟨wA4, O4.out⟩, rfl⟩, fun _ => trivial⟩, ?_⟩
                        refine wpAnyX_one 7 rfl (by kernel_rfl) (by kernel_rfl) ?_
                        go_wp2_with fail
                        refine ⟨⟨fun _ => ⟨⟨wA4, O4.out⟩, rfl⟩, fun _ => trivial⟩, ?_⟩
                        refine wpAnyX_one 8 rfl (by kernel_rfl) (by kernel_rfl) ?_
                        go_wp2_with fail
                        refine ⟨⟨fun _ => ⟨⟨wA4, O4.out⟩, rfl⟩, fun _ => trivial⟩, ?_⟩
                        obtain ⟨u0, uf0⟩ := K4.out.at_ 0 (x := .int .i64 0) rfl
                        obtain ⟨u1, uf1⟩ := K4.out.at_ 1 (x := .int .i64 0) rfl
                        refine wpAnyX_one 10 rfl (by kernel_rfl) (by kernel_rfl) ?_
                        go_wp2_with fail
                        refine ⟨⟨fun h => absurd (show true = false from h) (by decide), fun _ => trivial⟩, ?_⟩
                        refine wpAnyX_done (by kernel_rfl) ?_
                        try dsimp only
                        have kh4 := (K4.out.set_ 0 (.int .i64 e9.a)).set_ 1 (.int .i64 e9.b)
                        have q4 := (Q4.out.far (p := ⟨wd1.heap.size, 0, none⟩) (by simp; omega) (.int .i64 e9.a)).far (p := ⟨wd1.heap.size, 1, none⟩) (by simp; omega) (.int .i64 e9.b)
                        have S4 := (S4.out.far (i := 0) HF.out (.int .i64 e9.a)).far (i := 1) HF.out (.int .i64 e9.b)
                        obtain ⟨W4, hW4⟩ : ∃ W4, W4 = (wA4.setCell ⟨wd1.heap.size, 0, none⟩ (.int .i64 e9.a)).setCell ⟨wd1.heap.size, 1, none⟩ (.int .i64 e9.b) := ⟨_, rfl⟩
                        rw [← hW4] at kh4 q4 S4
                        have HW4 := Lib.hid hW4
                        clear hW4 u0 u1 uf0 uf1
                        obtain ⟨v0, -⟩ := kh4.at_ 0 (x := .int .i64 e9.a) rfl
                        obtain ⟨v1, -⟩ := kh4.at_ 1 (x := .int .i64 e9.b) rfl
                        obtain ⟨r1, rf1⟩ := q4.at_ 1 (x := .int .i64 y) rfl
                        obtain ⟨r2, rf2⟩ := q4.at_ 2 (x := .int .i64 0) rfl
                        have hnq : w7.heap.size ≠ wd1.heap.size := by omega
                        go_upto_region 20 with (fail)
                        rw [← HW4.out]
                        go_wp2_with fail
                        go_meet
                        exact ⟨⟨2, e9.a, e9.b⟩, (S4.far hfr _).far hfr _, (q4.set_ 1 (.int .i64 e9.a)).set_ 2 (.int .i64 e9.b)⟩
                    · skip
                      go_wp2_with fail
                      have hal := (Below.refl w0.heap.size w0).alloc (Nat.le_refl _) (.cells #[.int .i64 0, .int .i64 0] 92)
                      have hsA : w0.heap.size < (w0.alloc (.cells #[.int .i64 0, .int .i64 0] 92)).heap.size := by simp
                      have kh := Bk.new w0 #[.int .i64 0, .int .i64 0] 92
                      have HF := Lib.hid S0.out.fresh
                      have hhq : w7.heap.size < w0.heap.size := Q0.out.lt
                      have hgA : g < w0.heap.size := S0.out.cur.lt
                      obtain ⟨wA5, hwA⟩ : ∃ wA, wA = w0.alloc (.cells #[.int .i64 0, .int .i64 0] 92) := ⟨_, rfl⟩
                      rw [← hwA] at hal kh hsA
                      rw [← hwA]
                      have S5 := Lib.hid (S0.out.below hal)
                      have Q5 := Lib.hid (Q0.out.below hal Q0.out.lt)
                      have O5 := Lib.hid (O0.out.trans (Only.of_below hal [g]))
                      have K5 := Lib.hid kh
                      clear hwA hal kh
                      refine ⟨⟨fun _ => ⟨⟨wA5, O5.out⟩, rfl⟩, fun _ => trivial⟩, ?_⟩
                      refine wpAnyX_one 6 rfl (by kernel_rfl) (by kernel_rfl) ?_
                      go_wp2_with fail
                      refine (l01Below g B.h.length _ S5.out.cur (WalkArith.wf_i64 (by omega))).mono ?_
                      rintro e wd6 ⟨j, ⟨j0, j1⟩, rfl, hc2, ho2⟩
                      have S6 := Lib.hid (S5.out.go hc2 ho2)
                      have Q6 := Lib.hid (Q5.out.only ho2 (by simp; omega))
                      have O6 := Lib.hid (O5.out.trans ho2)
                      have K6 := Lib.hid (K5.out.only ho2 (by simp; omega))
                      obtain ⟨j, rfl⟩ := Int.eq_ofNat_of_zero_le j0
                      have hj : j < B.h.length := by omega
                      obtain ⟨A', c', he, -, -, -, hr9⟩ := S6.out.own.rd.h
                      injection he with e1 e3 e2
                      subst e1 e2
                      clear e3
                      obtain ⟨b9, o9, rfl, hb9, hcell9⟩ := hr9 (by omega)
                      obtain ⟨e9, hxk, hx, hx'⟩ := p2_at hcell9 hj
                      have hb9' := hb9
                      clear hcell9 hr9 j0 j1 hc2 ho2
                      try dsimp only
                      go_wp2_with fail
                      refine ⟨⟨fun _ => ⟨⟨wd6, O6.out⟩, rfl⟩, fun _ => trivial⟩, ?_⟩
                      refine wpAnyX_one 7 rfl (by kernel_rfl) (by kernel_rfl) ?_
                      go_wp2_with fail
                      refine ⟨⟨fun _ => ⟨⟨wd6, O6.out⟩, rfl⟩, fun _ => trivial⟩, ?_⟩
                      refine wpAnyX_one 8 rfl (by kernel_rfl) (by kernel_rfl) ?_
                      go_wp2_with fail
                      refine ⟨⟨fun _ => ⟨⟨wd6, O6.out⟩, rfl⟩, fun _ => trivial⟩, ?_⟩
                      obtain ⟨u0, uf0⟩ := K6.out.at_ 0 (x := .int .i64 0) rfl
                      obtain ⟨u1, uf1⟩ := K6.out.at_ 1 (x := .int .i64 0) rfl
                      refine wpAnyX_one 10 rfl (by kernel_rfl) (by kernel_rfl) ?_
                      go_wp2_with fail
                      refine ⟨⟨fun h => absurd (show true = false from h) (by decide), fun _ => trivial⟩, ?_⟩
                      refine wpAnyX_done (by kernel_rfl) ?_
                      try dsimp only
                      have kh4 := (K6.out.set_ 0 (.int .i64 e9.a)).set_ 1 (.int .i64 e9.b)
                      have q4 := (Q6.out.far (p := ⟨w0.heap.size, 0, none⟩) (by simp; omega) (.int .i64 e9.a)).far (p := ⟨w0.heap.size, 1, none⟩) (by simp; omega) (.int .i64 e9.b)
                      have S4 := (S6.out.far (i := 0) HF.out (.int .i64 e9.a)).far (i := 1) HF.out (.int .i64 e9.b)
                      obtain ⟨W4, hW4⟩ : ∃ W4, W4 = (wd6.setCell ⟨w0.heap.size, 0, none⟩ (.int .i64 e9.a)).setCell ⟨w0.heap.size, 1, none⟩ (.int .i64 e9.b) := ⟨_, rfl⟩
                      rw [← hW4] at kh4 q4 S4
                      have HW4 := Lib.hid hW4
                      clear hW4 u0 u1 uf0 uf1
                      obtain ⟨v0, -⟩ := kh4.at_ 0 (x := .int .i64 e9.a) rfl
                      obtain ⟨v1, -⟩ := kh4.at_ 1 (x := .int .i64 e9.b) rfl
                      obtain ⟨r1, rf1⟩ := q4.at_ 1 (x := .int .i64 y) rfl
                      obtain ⟨r2, rf2⟩ := q4.at_ 2 (x := .int .i64 0) rfl
                      have hnq : w7.heap.size ≠ w0.heap.size := by omega
                      go_upto_region 20 with (fail)
                      rw [← HW4.out]
                      go_wp2_with fail
                      go_meet
                      exact ⟨⟨2, e9.a, e9.b⟩, (S4.far hfr _).far hfr _, (q4.set_ 1 (.int .i64 e9.a)).set_ 2 (.int .i64 e9.b)⟩
                  · skip
                    go_wp2_with fail
                    have hal := (Below.refl w0.heap.size w0).alloc (Nat.le_refl _) (.cells #[.int .i64 0, .int .i64 0] 92)
                    have hsA : w0.heap.size < (w0.alloc (.cells #[.int .i64 0, .int .i64 0] 92)).heap.size := by simp
                    have kh := Bk.new w0 #[.int .i64 0, .int .i64 0] 92
                    have HF := Lib.hid S0.out.fresh
                    have hhq : w7.heap.size < w0.heap.size := Q0.out.lt
                    have hgA : g < w0.heap.size := S0.out.cur.lt
                    obtain ⟨wA7, hwA⟩ : ∃ wA, wA = w0.alloc (.cells #[.int .i64 0, .int .i64 0] 92) := ⟨_, rfl⟩
                    rw [← hwA] at hal kh hsA
                    rw [← hwA]
                    have S7 := Lib.hid (S0.out.below hal)
                    have Q7 := Lib.hid (Q0.out.below hal Q0.out.lt)
                    have O7 := Lib.hid (O0.out.trans (Only.of_below hal [g]))
                    have K7 := Lib.hid kh
                    clear hwA hal kh
                    refine ⟨⟨fun _ => ⟨⟨wA7, O7.out⟩, rfl⟩, fun _ => trivial⟩, ?_⟩
                    refine wpAnyX_one 5 rfl (by kernel_rfl) (by kernel_rfl) ?_
                    go_wp2_with fail
                    refine ⟨⟨fun _ => ⟨⟨wA7, O7.out⟩, rfl⟩, fun _ => trivial⟩, ?_⟩
                    refine wpAnyX_one 6 rfl (by kernel_rfl) (by kernel_rfl) ?_
                    go_wp2_with fail
                    refine (l01Below g B.h.length _ S7.out.cur (WalkArith.wf_i64 (by omega))).mono ?_
                    rintro e wd8 ⟨j, ⟨j0, j1⟩, rfl, hc2, ho2⟩
                    have S8 := Lib.hid (S7.out.go hc2 ho2)
                    have Q8 := Lib.hid (Q7.out.only ho2 (by simp; omega))
                    have O8 := Lib.hid (O7.out.trans ho2)
                    have K8 := Lib.hid (K7.out.only ho2 (by simp; omega))
                    obtain ⟨j, rfl⟩ := Int.eq_ofNat_of_zero_le j0
                    have hj : j < B.h.length := by omega
                    obtain ⟨A', c', he, -, -, -, hr9⟩ := S8.out.own.rd.h
                    injection he with e1 e3 e2
                    subst e1 e2
                    clear e3
                    obtain ⟨b9, o9, rfl, hb9, hcell9⟩ := hr9 (by omega)
                    obtain ⟨e9, hxk, hx, hx'⟩ := p2_at hcell9 hj
                    have hb9' := hb9
                    clear hcell9 hr9 j0 j1 hc2 ho2
                    try dsimp only
                    go_wp2_with fail
                    refine ⟨⟨fun _ => ⟨⟨wd8, O8.out⟩, rfl⟩, fun _ => trivial⟩, ?_⟩
                    refine wpAnyX_one 7 rfl (by kernel_rfl) (by kernel_rfl) ?_
                    go_wp2_with fail
                    refine ⟨⟨fun _ => ⟨⟨wd8, O8.out⟩, rfl⟩, fun _ => trivial⟩, ?_⟩
                    refine wpAnyX_one 8 rfl (by kernel_rfl) (by kernel_rfl) ?_
                    go_wp2_with fail
                    refine ⟨⟨fun _ => ⟨⟨wd8, O8.out⟩, rfl⟩, fun _ => trivial⟩, ?_⟩
                    obtain ⟨u0, uf0⟩ := K8.out.at_ 0 (x := .int .i64 0) rfl
                    obtain ⟨u1, uf1⟩ := K8.out.at_ 1 (x := .int .i64 0) rfl
                    refine wpAnyX_one 10 rfl (by kernel_rfl) (by kernel_rfl) ?_
                    go_wp2_with fail
                    refine ⟨⟨fun h => absurd (show true = false from h) (by decide), fun _ => trivial⟩, ?_⟩
                    refine wpAnyX_done (by kernel_rfl) ?_
                    try dsimp only
                    have kh4 := (K8.out.set_ 0 (.int .i64 e9.a)).set_ 1 (.int .i64 e9.b)
                    have q4 := (Q8.out.far (p := ⟨w0.heap.size, 0, none⟩) (by simp; omega) (.int .i64 e9.a)).far (p := ⟨w0.heap.size, 1, none⟩) (by simp; omega) (.int .i64 e9.b)
                    have S4 := (S8.out.far (i := 0) HF.out (.int .i64 e9.a)).far (i := 1) HF.out (.int .i64 e9.b)
                    obtain ⟨W4, hW4⟩ : ∃ W4, W4 = (wd8.setCell ⟨w0.heap.size, 0, none⟩ (.int .i64 e9.a)).setCell ⟨w0.heap.size, 1, none⟩ (.int .i64 e9.b) := ⟨_, rfl⟩
                    rw [← hW4] at kh4 q4 S4
                    have HW4 := Lib.hid hW4
                    clear hW4 u0 u1 uf0 uf1
                    obtain ⟨v0, -⟩ := kh4.at_ 0 (x := .int .i64 e9.a) rfl
                    obtain ⟨v1, -⟩ := kh4.at_ 1 (x := .int .i64 e9.b) rfl
                    obtain ⟨r1, rf1⟩ := q4.at_ 1 (x := .int .i64 y) rfl
                    obtain ⟨r2, rf2⟩ := q4.at_ 2 (x := .int .i64 0) rfl
                    have hnq : w7.heap.size ≠ w0.heap.size := by omega
                    go_upto_region 20 with (fail)
                    rw [← HW4.out]
                    go_wp2_with fail
                    go_meet
                    exact ⟨⟨2, e9.a, e9.b⟩, (S4.far hfr _).far hfr _, (q4.set_ 1 (.int .i64 e9.a)).set_ 2 (.int .i64 e9.b)⟩
                · have hl0' : ¬ (0 : Int) < B.h.length := by omega
                  go_wp2_with fail
                  go_meet
                  exact ⟨⟨2, y, 0⟩, hS9, q9⟩
              · have e2 : (z == 2) = false := by simp; omega
                clear h13 h2
                go_wp2_with fail
                go_meet
                exact ⟨⟨z, y, 0⟩, hS9, q9⟩
          case rest =>
            obtain ⟨q, hSz, hqz⟩ := hcut
            rename World => wz
            clear m0 hS9 q9 HW9
            go_wp2_with fail
            refine (l01Once g 30 _ hSz.cur (WalkArith.wf_i64 (by omega))).mono ?_
            rintro e w4 ⟨b4, rfl, hcu4, hon4⟩
            have hS4 := hSz.go hcu4 hon4
            have hq4 := hqz.only hon4 (by simp; omega)
            clear hSz hqz hcu4 hon4
            go_upto_if 81 with (fail)
            go_cut [] (fun wz => ∃ q : O3, St lo g (w.heap.size + 1) w (.slice A1 B.l.length c1) (.slice A2 B.h.length c2) (.slice A3 B.w.length c3) (.slice A4 B.f.length c4) B bs u5 L wz ∧ Bk wz w7.heap.size #[.int .i64 q.k, .int .i64 q.t, .int .i64 q.x] 35)
            case first =>
              cases b4
              · go_wp2_with fail
                go_meet
                exact ⟨q, hS4, hq4⟩
              · go_wp2_with fail
                refine (l01Below g 3 _ hS4.cur (WalkArith.wf_i64 (by omega))).mono ?_
                rintro e w5 ⟨x, ⟨x0, x1⟩, rfl, hcu5, hon5⟩
                have hS5 := hS4.go hcu5 hon5
                have hq5 := hq4.only hon5 (by simp; omega)
                clear hS4 hq4 hcu5 hon5
                have hx3 : x = 0 ∨ x = 1 ∨ x = 2 := by omega
                clear x0 x1
                rcases hx3 with rfl | rfl | rfl
                · skip
                  have hS6 := hS5.alloc (.cells #[.int .i64 (-1), .int .i64 7] 3)
                  have hq6 := hq5.alloc (.cells #[.int .i64 (-1), .int .i64 7] 3)
                  have HP : Hid (Rd (w5.alloc (.cells #[.int .i64 (-1), .int .i64 7] 3)) (.slice (some ⟨w5.heap.size, 0, none⟩) 2 2) 1 2 (ints [-1, 7])) := Lib.hid (by exact rd_lit w5 [-1, 7] 3 (by simp))
                  have hgw5 : g < w5.heap.size := hS5.cur.lt
                  go_wp2_with fail
                  refine (l01PickInt g _ [-1, 7] _ hS6.cur HP.out (by simp) (by intro A n c he ad ha; injection he with e1; subst e1; injection ha with ha; subst ha; simp; omega)).mono ?_
                  rintro e w6 ⟨u, hu, rfl, hcu6, hon6⟩
                  have hS8 := hS6.go hcu6 hon6
                  have hq8 := hq6.only hon6 (by simp; omega)
                  obtain ⟨u0, uf0⟩ := hq8.at_ 0 (x := .int .i64 q.k) rfl
                  clear hu
                  go_wp2_with fail
                  go_meet
                  exact ⟨⟨u, q.t, q.x⟩, hS8.far hfr _, hq8.set_ 0 (.int .i64 u)⟩
                · skip
                  have hS6 := hS5.alloc (.cells #[.int .i64 (-1), .int .i64 5] 3)
                  have hq6 := hq5.alloc (.cells #[.int .i64 (-1), .int .i64 5] 3)
                  have HP : Hid (Rd (w5.alloc (.cells #[.int .i64 (-1), .int .i64 5] 3)) (.slice (some ⟨w5.heap.size, 0, none⟩) 2 2) 1 2 (ints [-1, 5])) := Lib.hid (by exact rd_lit w5 [-1, 5] 3 (by simp))
                  have hgw5 : g < w5.heap.size := hS5.cur.lt
                  go_wp2_with fail
                  refine (l01PickInt g _ [-1, 5] _ hS6.cur HP.out (by simp) (by intro A n c he ad ha; injection he with e1; subst e1; injection ha with ha; subst ha; simp; omega)).mono ?_
                  rintro e w6 ⟨u, hu, rfl, hcu6, hon6⟩
                  have hS8 := hS6.go hcu6 hon6
                  have hq8 := hq6.only hon6 (by simp; omega)
                  obtain ⟨u1, uf1⟩ := hq8.at_ 1 (x := .int .i64 q.t) rfl
                  clear hu
                  go_wp2_with fail
                  go_meet
                  exact ⟨⟨q.k, u, q.x⟩, hS8.far hfr _, hq8.set_ 1 (.int .i64 u)⟩
                · go_wp2_with fail
                  refine (l01Below g 9 _ hS5.cur (WalkArith.wf_i64 (by omega))).mono ?_
                  rintro e w6 ⟨u, -, rfl, hcu6, hon6⟩
                  have hS8 := hS5.go hcu6 hon6
                  have hq8 := hq5.only hon6 (by simp; omega)
                  obtain ⟨u2, uf2⟩ := hq8.at_ 2 (x := .int .i64 q.x) rfl
                  go_wp2_with fail
                  go_meet
                  exact ⟨⟨q.k, q.t, u⟩, hS8.far hfr _, hq8.set_ 2 (.int .i64 u)⟩
            case rest =>
              clear hS4 hq4 q
              obtain ⟨q, hSy, hqy⟩ := hcut
              rename World => wy
              have hO3 := hSy.row
              have hzy := hSy.size
              have hl7 := hqy.lt
              obtain ⟨AO, cO, rfl⟩ := owns_form' hO3
              obtain ⟨m0, m1, m2⟩ := hqy.opc
              go_upto_region 31 with (at_builtin; refine wpList_append_own_at _ rfl _ _ 44 rfl w.heap.size 35 i (.agg #[.int .i64 0, .int .i64 0, .int .i64 0]) 3 24 Try.underlying44 hi hiz0 hiz1 hiz2 rfl (by decide) _ _ _ rfl (hO3.alloc _) ⟨wy.heap.size, 0, none⟩ 1 1 [.int .i64 q.k, .int .i64 q.t, .int .i64 q.x] rfl rfl (new_cells _ _ _) (by simp [Value.oneCell']) (by unfold maxLen; omega) (by omega) (by have := hzy.2.1; simp; omega) ?_; intro v9 w9 h9 hg9 _ hloc; have hS10 := hSy.append (q := q) h9 hg9 hloc; have hq10 := (hqy.alloc (.cells #[.int .i64 q.k, .int .i64 q.t, .int .i64 q.x] 35)).grownO hg9 hfr.2.2.2)
              clear m0 m1 m2
              obtain ⟨m0, m1, m2⟩ := hq10.opc
              obtain ⟨⟨t0, t1, t2, t3, t4⟩, -⟩ := five hS10.box
              have HSC := Lib.hid (spec_StepCount _ _ _ _ B q _ hS10.own.rd (by have := ok_sz hok; omega))
              have hok2 := step_ok q hok
              go_wp2_with (go_at_call 10; refine HSC.out.mono ?_; rintro e w10 ⟨x1, x2, x3, x4, bs10, rfl, hO10, hb10, hl10⟩; obtain ⟨D1, d1, D2, d2, D3, d3, D4, d4, rfl, rfl, rfl, rfl⟩ := hO10.formV; obtain ⟨⟨s0, s1, s2, s3, s4⟩, g0, g1, g2, g3, g4⟩ := five (hS10.box.below hl10 hS10.box.lt))
              exact ⟨⟨k + 1, L ++ [q], _, _, _, _, stepBn B q, bs10, by omega, by go_num, by simp; omega, hok2, Lib.hid (hS10.put hl10 hO10 hb10)⟩, by simp [intOf]; omega⟩
        · obtain rfl : k = n := by omega
          have hS := HS.out
          go_wp2_with fail
          go_ret
          exact ⟨_, L, rfl, hL, hS.row, hS.cur, hS.only⟩
end Go.Proofs.Ytiamkgkhamnaeaa
