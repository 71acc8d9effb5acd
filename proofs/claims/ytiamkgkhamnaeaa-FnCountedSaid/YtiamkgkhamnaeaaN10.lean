/- Contract of chapter 9's model function l09Copy (package spec). Condition: the bench's rows can be read; lengths that a law bounds. -/
import Derived.Test.YtiamkgkhamnaeaaN1
import Derived.Test.YtiamkgkhamnaeaaHeads
namespace Go.Proofs.Ytiamkgkhamnaeaa
set_option maxRecDepth 20000
set_option linter.unusedSimpArgs false
set_option linter.unusedVariables false
open Go.ChangeShapes Go.WideShapes Go.ChangeAt Go.RowKit
set_option linter.unusedVariables false
theorem wpOp_of_list {P : Program} {ops : Array Oper} {Q : Exit → Act → World → Prop} {md : Region.Mode} {I : Array Bool → World → Prop} {o : Oper} {i fuel : Nat} {listed : Array Bool} {a : Act} {w : World} (ho : ops[i]? = some o)
    (h : wpList P ops (fun e a w => match e with | .normal => I (listed.setIfInBounds i true) w ∧ wpAnyX P md ops Q I fuel (listed.setIfInBounds i true) a w | e => Q e a w) [o] a w) :
    wpOp P ops Q i (fun a' w' => I (listed.setIfInBounds i true) w' ∧ wpAnyX P md ops Q I fuel (listed.setIfInBounds i true) a' w') a w := by
  unfold wpOp
  simp only [ho]
  unfold wpList at h
  split
  · rename_i hw
    simp only [hw, if_true] at h
    rcases h with h | ⟨h1, h2⟩
    · left
      unfold Oper.wp at *
      generalize (execOp a.eval o).run P w = r at *
      cases r with
      | ok n w' =>
        cases n <;> simp only [Oper.upon] at h ⊢ <;> first | exact h | exact Calls.mono h (fun e w'' he => by cases e <;> exact he)
      | halt x w' => cases x <;> simp only [Oper.upon] at h ⊢ <;> exact h
    · exact .inr ⟨h1, h2⟩
  · rename_i hw
    simp only [hw] at h
    exact h
/-- two operations are left to come up: either may be run -/
theorem wpAnyX_two {P : Program} {ops : Array Oper} {Q : Exit → Act → World → Prop} {md : Region.Mode} {I : Array Bool → World → Prop} {oi oj : Oper} (i j : Nat) {fuel : Nat} {listed : Array Bool} {a : Act} {w : World} (hoi : ops[i]? = some oi) (hoj : ops[j]? = some oj) (hr : Region.ready md ops listed = [i, j]) (hf : decide (0 < fuel) = true)
    (hi : wpList P ops (fun e a w => match e with | .normal => I (listed.setIfInBounds i true) w ∧ wpAnyX P md ops Q I (fuel - 1) (listed.setIfInBounds i true) a w | e => Q e a w) [oi] a w)
    (hj : wpList P ops (fun e a w => match e with | .normal => I (listed.setIfInBounds j true) w ∧ wpAnyX P md ops Q I (fuel - 1) (listed.setIfInBounds j true) a w | e => Q e a w) [oj] a w) :
    wpAnyX P md ops Q I fuel listed a w := by
  obtain ⟨n, rfl⟩ : ∃ n, fuel = n + 1 := ⟨fuel - 1, by have := of_decide_eq_true hf; omega⟩
  rw [Nat.add_sub_cancel] at hi hj
  refine ⟨fun h0 => (by rw [hr] at h0; cases h0), fun k hk => ?_⟩
  rw [hr] at hk
  rcases List.mem_cons.1 hk with rfl | hk
  · exact wpOp_of_list hoi hi
  · obtain rfl : k = j := by simpa using hk
    exact wpOp_of_list hoj hj
theorem Bk.set5 {w : World} {g : Nat} {z0 z1 z2 z3 z4 : Value} {t : TypeId} (h : Bk w g #[z0, z1, z2, z3, z4] t) (v0 v1 v2 v3 v4 : Value) :
    Bk (((((w.setCell ⟨g, 0, none⟩ v0).setCell ⟨g, 1, none⟩ v1).setCell ⟨g, 2, none⟩ v2).setCell ⟨g, 3, none⟩ v3).setCell ⟨g, 4, none⟩ v4) g #[v0, v1, v2, v3, v4] t :=
  ((((h.set_ 0 v0).set_ 1 v1).set_ 2 v2).set_ 3 v3).set_ 4 v4
theorem below_set5 {B : Nat} {w w' : World} (h : Below B w w') {g : Nat} (hg : B ≤ g) (v0 v1 v2 v3 v4 : Value) :
    Below B w (((((w'.setCell ⟨g, 0, none⟩ v0).setCell ⟨g, 1, none⟩ v1).setCell ⟨g, 2, none⟩ v2).setCell ⟨g, 3, none⟩ v3).setCell ⟨g, 4, none⟩ v4) :=
  ((((h.setCell (p := ⟨g, 0, none⟩) hg v0).setCell (p := ⟨g, 1, none⟩) hg v1).setCell (p := ⟨g, 2, none⟩) hg v2).setCell (p := ⟨g, 3, none⟩) hg v3).setCell (p := ⟨g, 4, none⟩) hg v4
theorem Own.far5 {w : World} {v : Value} {size n : Nat} {cs : List Value} {bs : List Nat} (h : Own w v size n cs bs) {g : Nat} (hg : ∀ k ∈ bs, k ≠ g) (v0 v1 v2 v3 v4 : Value) :
    Own (((((w.setCell ⟨g, 0, none⟩ v0).setCell ⟨g, 1, none⟩ v1).setCell ⟨g, 2, none⟩ v2).setCell ⟨g, 3, none⟩ v3).setCell ⟨g, 4, none⟩ v4) v size n cs bs :=
  ((((h.far hg).far hg).far hg).far hg).far hg
/-- three rows of the call's own and the box of the copy -/
def Cp3 (B : Bn) (lo : Nat) (w : World) (a c d : Value) (g : Nat) (wz : World) : Prop :=
  ∃ b1 b3 b4, (Own wz a 1 B.l.length (ints B.l) b1 ∧ Own wz c 1 B.w.length (ints B.w) b3 ∧ Own wz d 1 B.f.length (ints B.f) b4) ∧
    ((∀ x ∈ b1, x ∉ b3 ∧ x ∉ b4) ∧ ∀ x ∈ b3, x ∉ b4) ∧ ((∀ x ∈ b1, x ≠ g ∧ lo ≤ x) ∧ (∀ x ∈ b3, x ≠ g ∧ lo ≤ x) ∧ ∀ x ∈ b4, x ≠ g ∧ lo ≤ x) ∧ lo ≤ g ∧ Bk wz g #[a, .slice none 0 0, c, d, .int .i64 B.n] 31 ∧ Below lo w wz
theorem Cp3.mk {B : Bn} {lo : Nat} {w wz : World} {a c d : Value} {g : Nat} {b1 b3 b4 : List Nat} (h1 : Own wz a 1 B.l.length (ints B.l) b1) (h3 : Own wz c 1 B.w.length (ints B.w) b3) (h4 : Own wz d 1 B.f.length (ints B.f) b4)
    (d1 : ∀ x ∈ b1, ∀ y ∈ b3, x < y) (d2 : ∀ x ∈ b1, ∀ y ∈ b4, x < y) (d3 : ∀ x ∈ b3, ∀ y ∈ b4, x < y) (l1 : ∀ x ∈ b1, x ≠ g ∧ lo ≤ x) (l3 : ∀ x ∈ b3, x ≠ g ∧ lo ≤ x) (l4 : ∀ x ∈ b4, x ≠ g ∧ lo ≤ x) (hg : lo ≤ g)
    (hk : Bk wz g #[a, .slice none 0 0, c, d, .int .i64 B.n] 31) (hb : Below lo w wz) : Cp3 B lo w a c d g wz :=
  ⟨b1, b3, b4, ⟨h1, h3, h4⟩, ⟨fun x hx => ⟨fun hy => by have := d1 x hx x hy; omega, fun hy => by have := d2 x hx x hy; omega⟩, fun x hx hy => by have := d3 x hx x hy; omega⟩, ⟨l1, l3, l4⟩, hg, hk, hb⟩
theorem owns_form' {w : World} {base : Nat} {e : TypeId} {size n : Nat} {v : Value} {L : List Value} (h : w.ownsRow base e size v n L) : ∃ A c, v = .slice A n c := by
  obtain ⟨-, ⟨rfl, rfl⟩ | ⟨g, cap, cur, rfl, -⟩⟩ := h
  · exact ⟨_, _, rfl⟩
  · exact ⟨_, _, rfl⟩
theorem owns_far' {w : World} {base : Nat} {e : TypeId} {size n : Nat} {v : Value} {L : List Value} (h : w.ownsRow base e size v n L) {g i : Nat} (hg : g < base) (u : Value) : (w.setCell ⟨g, i, none⟩ u).ownsRow base e size v n L := by
  obtain ⟨hl, h1 | ⟨g', cap, cur, rfl, hb, hgg, rest⟩⟩ := h
  · exact ⟨hl, .inl h1⟩
  · exact ⟨hl, .inr ⟨g', cap, cur, rfl, hb, (Below.heap_setCell _ _ _ _ (by show g' ≠ g; omega)).trans hgg, rest⟩⟩
theorem Only.then_below {bs : List Nat} {w w1 w2 : World} (h : Only bs w w1) (hb : Below w.heap.size w1 w2) : Only bs w w2 :=
  ⟨hb.os.trans h.os, hb.tape.trans h.tape, hb.output.trans h.output, Nat.le_trans h.size hb.size, fun k hk hn => (hb.block k hk).trans (h.block k hk hn)⟩
set_option maxHeartbeats 6400000 in
theorem l09Copy (a b c d : Value) (B : Bn) (w : World) (r : RdBn w a b c d B) (hsz : szBn B ≤ 16777216) :
    Calls Try.prog 49 #[.agg #[a, b, c, d, .int .i64 B.n]] w (RetBn B w) := by
  obtain ⟨A1, c1, A2, c2, A3, c3, A4, c4, ⟨rfl, rfl, rfl, rfl⟩, ⟨g1, g2, g3, g4⟩, ⟨k1, k2, k3, k4⟩⟩ := r.slices
  have hsm : (B.l.length ≤ 16777216 ∧ B.h.length ≤ 16777216) ∧ B.w.length ≤ 16777216 ∧ B.f.length ≤ 16777216 := by unfold szBn at hsz; omega
  have hB := ((Below.refl w.heap.size w).alloc (Nat.le_refl _) (.cells #[.slice A1 B.l.length c1, .slice A2 B.h.length c2, .slice A3 B.w.length c3, .slice A4 B.f.length c4, .int .i64 B.n] 31)).alloc (by simp) (.cells #[.slice none 0 0, .slice none 0 0, .slice none 0 0, .slice none 0 0, .int .i64 0] 31)
  have k0 := (Bk.new w #[.slice A1 B.l.length c1, .slice A2 B.h.length c2, .slice A3 B.w.length c3, .slice A4 B.f.length c4, .int .i64 B.n] 31).alloc (.cells #[.slice none 0 0, .slice none 0 0, .slice none 0 0, .slice none 0 0, .int .i64 0] 31)
  have kr := Bk.new (w.alloc (.cells #[.slice A1 B.l.length c1, .slice A2 B.h.length c2, .slice A3 B.w.length c3, .slice A4 B.f.length c4, .int .i64 B.n] 31)) #[.slice none 0 0, .slice none 0 0, .slice none 0 0, .slice none 0 0, .int .i64 0] 31
  rw [World.size_alloc] at kr
  obtain ⟨W2, hW2⟩ : ∃ W2, W2 = (w.alloc (.cells #[.slice A1 B.l.length c1, .slice A2 B.h.length c2, .slice A3 B.w.length c3, .slice A4 B.f.length c4, .int .i64 B.n] 31)).alloc (.cells #[.slice none 0 0, .slice none 0 0, .slice none 0 0, .slice none 0 0, .int .i64 0] 31) := ⟨_, rfl⟩
  have hz2 : W2.heap.size = w.heap.size + 2 := by rw [hW2]; simp
  rw [← hW2] at hB k0 kr
  have HW2 := Lib.hid hW2
  have HZ2 := Lib.hid hz2
  have HB := Lib.hid hB
  have K0 := Lib.hid k0
  have KR := Lib.hid kr
  have HR := Lib.hid (r.below hB)
  have l0 := k0.lt
  have HS : Hid (∀ W : World, Below W2.heap.size W2 W → Below W2.heap.size W2 W ∧ W.cell? ⟨w.heap.size, 0, none⟩ = some (.slice A1 B.l.length c1) ∧ W.cell? ⟨w.heap.size, 2, none⟩ = some (.slice A3 B.w.length c3) ∧ W.cell? ⟨w.heap.size, 3, none⟩ = some (.slice A4 B.f.length c4) ∧ W.cell? ⟨w.heap.size, 4, none⟩ = some (.int .i64 B.n)) :=
    Lib.hid fun W hW => ⟨hW, ((K0.out.below hW l0).at_ 0 rfl).1, ((K0.out.below hW l0).at_ 2 rfl).1, ((K0.out.below hW l0).at_ 3 rfl).1, ((K0.out.below hW l0).at_ 4 rfl).1⟩
  have KN : Hid (Bk ((W2.alloc (.cells #[.slice none 0 0, .slice none 0 0, .slice none 0 0, .slice none 0 0, .int .i64 0] 31)).drew) W2.heap.size #[.slice none 0 0, .slice none 0 0, .slice none 0 0, .slice none 0 0, .int .i64 0] 31) := Lib.hid (Bk.new W2 _ _)
  have HN : Hid (Below W2.heap.size W2 (W2.alloc (.cells #[.slice none 0 0, .slice none 0 0, .slice none 0 0, .slice none 0 0, .int .i64 0] 31)).drew) := Lib.hid ((Below.refl _ W2).alloc (Nat.le_refl _) _).drew
  obtain ⟨x0, -⟩ := k0.at_ 0 (x := .slice A1 B.l.length c1) rfl
  obtain ⟨x2, -⟩ := k0.at_ 2 (x := .slice A3 B.w.length c3) rfl
  obtain ⟨x3, -⟩ := k0.at_ 3 (x := .slice A4 B.f.length c4) rfl
  obtain ⟨x4, -⟩ := k0.at_ 4 (x := .int .i64 B.n) rfl
  clear hW2 hz2 hB k0 kr r hsz
  go_enter Try.func49, Try.ntmps49
  go_wp2_with fail
  rw [← HW2.out]
  go_cut [3] (fun p wz => ∃ (D1 : Option Addr) (d1 : Nat) (D3 : Option Addr) (d3 : Nat) (D4 : Option Addr) (d4 : Nat) (g : Nat), p = .pointer (some ⟨g, 0, none⟩) ∧ Cp3 B W2.heap.size W2 (.slice D1 B.l.length d1) (.slice D3 B.w.length d3) (.slice D4 B.f.length d4) g wz)
  case first =>
    refine wp_region_two 13 13 (fun w' => ∃ q : Past W2, w' = q.v) (fun _ => True) (by kernel_rfl) ?_
    obtain ⟨w0, hw0⟩ : ∃ w0, w0 = W2.drew := ⟨_, rfl⟩
    have T0 : Hid (Below W2.heap.size W2 w0) := Lib.hid (by rw [hw0]; exact (Below.refl _ _).drew)
    have z0 : W2.heap.size ≤ w0.heap.size ∧ w0.heap.size ≤ W2.heap.size := by rw [hw0]; exact ⟨Nat.le_refl _, Nat.le_refl _⟩
    rw [← hw0]
    clear hw0
    have p0 := fun q : Past W2 => Past.cell l0 x0 q
    have p2 := fun q : Past W2 => Past.cell l0 x2 q
    have p3 := fun q : Past W2 => Past.cell l0 x3 q
    have p4 := fun q : Past W2 => Past.cell l0 x4 q
    clear x0 x2 x3 x4 HS KN HN
    refine wpAnyX_pass (C := (fun w' => ∃ q : Past W2, w' = q.v)) (some false) [true, true, false, true, true, false, true, true, false, true, true] rfl (by kernel_rfl) (fun _ _ t _ _ h => by cases t <;> exact h) ⟨fun _ => ⟨⟨w0, T0.out⟩, rfl⟩, fun _ => trivial⟩ ?_
    simp only [keepOps]
    repeat (go_big_quiet_step (fail))
    refine wpQuiet_nil ?_
    clear p0 p2 p3 p4
    refine wpAnyX_two 2 12 rfl rfl (by kernel_rfl) (by kernel_rfl) ?_ ?_
    · go_wp2_with fail
      refine (l01Copy _ B.l _ (HR.out.below T0.out).l hsm.1.1).mono ?_
      rintro e wc1 ⟨v1, bs1, rfl, ho1, lo1, hb1⟩
      obtain ⟨D1, d1, rfl, -, -⟩ := ho1.slice
      have hi1 := ho1.lt
      have T1 := Lib.hid (T0.out.trans (hb1.mono T0.out.size))
      have z1 := hb1.size
      have P1x0 := Lib.hid ho1
      clear ho1 hb1
      try dsimp only
      go_wp2_with fail
      refine ⟨⟨fun _ => ⟨⟨wc1, T1.out⟩, rfl⟩, fun _ => trivial⟩, ?_⟩
      refine wpAnyX_two 5 12 rfl rfl (by kernel_rfl) (by kernel_rfl) ?_ ?_
      · go_wp2_with fail
        refine (l01Copy _ B.w _ (HR.out.below T1.out).q hsm.2.1).mono ?_
        rintro e wc2 ⟨v2, bs2, rfl, ho2, lo2, hb2⟩
        obtain ⟨D2, d2, rfl, -, -⟩ := ho2.slice
        have hi2 := ho2.lt
        have T2 := Lib.hid (T1.out.trans (hb2.mono T1.out.size))
        have z2 := hb2.size
        have P2x0 := Lib.hid (P1x0.out.below hb2)
        have P2x1 := Lib.hid ho2
        clear ho2 hb2
        try dsimp only
        go_wp2_with fail
        refine ⟨⟨fun _ => ⟨⟨wc2, T2.out⟩, rfl⟩, fun _ => trivial⟩, ?_⟩
        refine wpAnyX_two 8 12 rfl rfl (by kernel_rfl) (by kernel_rfl) ?_ ?_
        · go_wp2_with fail
          refine (l01Copy _ B.f _ (HR.out.below T2.out).f hsm.2.2).mono ?_
          rintro e wc3 ⟨v3, bs3, rfl, ho3, lo3, hb3⟩
          obtain ⟨D3, d3, rfl, -, -⟩ := ho3.slice
          have hi3 := ho3.lt
          have T3 := Lib.hid (T2.out.trans (hb3.mono T2.out.size))
          have z3 := hb3.size
          have P3x0 := Lib.hid (P2x0.out.below hb3)
          have P3x1 := Lib.hid (P2x1.out.below hb3)
          have P3x2 := Lib.hid ho3
          clear ho3 hb3
          try dsimp only
          go_wp2_with fail
          refine ⟨⟨fun _ => ⟨⟨wc3, T3.out⟩, rfl⟩, fun _ => trivial⟩, ?_⟩
          refine wpAnyX_pass (C := (fun _ => True)) none [false, false, false, false, false, false, false, false, false, false, false, true] rfl (by kernel_rfl) (fun _ _ t _ _ h => by cases t <;> exact h) ⟨fun _ => ⟨⟨wc3, T3.out⟩, rfl⟩, fun _ => trivial⟩ ?_
          simp only [keepOps]
          repeat (go_big_quiet_step (fail))
          refine wpQuiet_nil ?_
          refine wpAnyX_one 12 rfl (by kernel_rfl) (by kernel_rfl) ?_
          go_wp2_with fail
          obtain ⟨wa4, hw4⟩ : ∃ wA, wA = wc3.alloc (.cells #[.slice none 0 0, .slice none 0 0, .slice none 0 0, .slice none 0 0, .int .i64 0] 31) := ⟨_, rfl⟩
          have T4 : Hid (Below W2.heap.size W2 wa4) := Lib.hid (by rw [hw4]; exact T3.out.alloc T3.out.size _)
          have KB4 : Hid (Bk wa4 wc3.heap.size #[.slice none 0 0, .slice none 0 0, .slice none 0 0, .slice none 0 0, .int .i64 0] 31) := Lib.hid (by rw [hw4]; exact Bk.new _ _ _)
          have z4 : wa4.heap.size = wc3.heap.size + 1 := by rw [hw4]; simp
          have P4x0 := Lib.hid (P3x0.out.below ((Below.refl _ _).alloc (Nat.le_refl _) (.cells #[.slice none 0 0, .slice none 0 0, .slice none 0 0, .slice none 0 0, .int .i64 0] 31)))
          rw [← hw4] at P4x0
          have P4x1 := Lib.hid (P3x1.out.below ((Below.refl _ _).alloc (Nat.le_refl _) (.cells #[.slice none 0 0, .slice none 0 0, .slice none 0 0, .slice none 0 0, .int .i64 0] 31)))
          rw [← hw4] at P4x1
          have P4x2 := Lib.hid (P3x2.out.below ((Below.refl _ _).alloc (Nat.le_refl _) (.cells #[.slice none 0 0, .slice none 0 0, .slice none 0 0, .slice none 0 0, .int .i64 0] 31)))
          rw [← hw4] at P4x2
          rw [← hw4]
          clear hw4
          refine ⟨⟨fun _ => ⟨⟨wa4, T4.out⟩, rfl⟩, fun _ => trivial⟩, ?_⟩
          refine wpAnyX_one 13 rfl (by kernel_rfl) (by kernel_rfl) ?_
          obtain ⟨y0, f0⟩ := KB4.out.at_ 0 (x := .slice none 0 0) rfl
          obtain ⟨y1, f1⟩ := KB4.out.at_ 1 (x := .slice none 0 0) rfl
          obtain ⟨y2, f2⟩ := KB4.out.at_ 2 (x := .slice none 0 0) rfl
          obtain ⟨y3, f3⟩ := KB4.out.at_ 3 (x := .slice none 0 0) rfl
          obtain ⟨y4, f4⟩ := KB4.out.at_ 4 (x := .int .i64 0) rfl
          have hkl := KB4.out.lt
          have htl := T4.out.size
          go_wp2_with fail
          refine ⟨⟨fun h => absurd (show true = false from h) (by decide), fun _ => trivial⟩, ?_⟩
          refine wpAnyX_done (by kernel_rfl) ?_
          clear y0 y1 y2 y3 y4 f0 f1 f2 f3 f4
          try dsimp only
          go_wp2_with fail
          go_meet
          exact ⟨D1, d1, D2, d2, D3, d3, _, rfl, Cp3.mk (P4x0.out.far5 (g := wc3.heap.size) (fun k hk => by have := lo1 k hk; have := hi1 k hk; omega) _ _ _ _ _) (P4x1.out.far5 (g := wc3.heap.size) (fun k hk => by have := lo2 k hk; have := hi2 k hk; omega) _ _ _ _ _) (P4x2.out.far5 (g := wc3.heap.size) (fun k hk => by have := lo3 k hk; have := hi3 k hk; omega) _ _ _ _ _) (fun x hx y hy => by have := hi1 x hx; have := lo2 y hy; omega) (fun x hx y hy => by have := hi1 x hx; have := lo3 y hy; omega) (fun x hx y hy => by have := hi2 x hx; have := lo3 y hy; omega) (fun x hx => by have := lo1 x hx; have := hi1 x hx; omega) (fun x hx => by have := lo2 x hx; have := hi2 x hx; omega) (fun x hx => by have := lo3 x hx; have := hi3 x hx; omega) (by omega) (KB4.out.set5 _ _ _ _ _) (below_set5 T4.out (by omega) _ _ _ _ _)⟩
        · go_wp2_with fail
          obtain ⟨wa5, hw5⟩ : ∃ wA, wA = wc2.alloc (.cells #[.slice none 0 0, .slice none 0 0, .slice none 0 0, .slice none 0 0, .int .i64 0] 31) := ⟨_, rfl⟩
          have T5 : Hid (Below W2.heap.size W2 wa5) := Lib.hid (by rw [hw5]; exact T2.out.alloc T2.out.size _)
          have KB5 : Hid (Bk wa5 wc2.heap.size #[.slice none 0 0, .slice none 0 0, .slice none 0 0, .slice none 0 0, .int .i64 0] 31) := Lib.hid (by rw [hw5]; exact Bk.new _ _ _)
          have z5 : wa5.heap.size = wc2.heap.size + 1 := by rw [hw5]; simp
          have P5x0 := Lib.hid (P2x0.out.below ((Below.refl _ _).alloc (Nat.le_refl _) (.cells #[.slice none 0 0, .slice none 0 0, .slice none 0 0, .slice none 0 0, .int .i64 0] 31)))
          rw [← hw5] at P5x0
          have P5x1 := Lib.hid (P2x1.out.below ((Below.refl _ _).alloc (Nat.le_refl _) (.cells #[.slice none 0 0, .slice none 0 0, .slice none 0 0, .slice none 0 0, .int .i64 0] 31)))
          rw [← hw5] at P5x1
          rw [← hw5]
          clear hw5
          refine ⟨⟨fun _ => ⟨⟨wa5, T5.out⟩, rfl⟩, fun _ => trivial⟩, ?_⟩
          refine wpAnyX_one 8 rfl (by kernel_rfl) (by kernel_rfl) ?_
          go_wp2_with fail
          refine (l01Copy _ B.f _ (HR.out.below T5.out).f hsm.2.2).mono ?_
          rintro e wc6 ⟨v6, bs6, rfl, ho6, lo6, hb6⟩
          obtain ⟨D6, d6, rfl, -, -⟩ := ho6.slice
          have hi6 := ho6.lt
          have T6 := Lib.hid (T5.out.trans (hb6.mono T5.out.size))
          have z6 := hb6.size
          have P6x0 := Lib.hid (P5x0.out.below hb6)
          have P6x1 := Lib.hid (P5x1.out.below hb6)
          have P6x2 := Lib.hid ho6
          have KB6 := Lib.hid (KB5.out.below hb6 KB5.out.lt)
          clear ho6 hb6
          try dsimp only
          go_wp2_with fail
          refine ⟨⟨fun _ => ⟨⟨wc6, T6.out⟩, rfl⟩, fun _ => trivial⟩, ?_⟩
          refine wpAnyX_pass (C := (fun _ => True)) none [false, false, false, false, false, false, false, false, false, false, false, true] rfl (by kernel_rfl) (fun _ _ t _ _ h => by cases t <;> exact h) ⟨fun _ => ⟨⟨wc6, T6.out⟩, rfl⟩, fun _ => trivial⟩ ?_
          simp only [keepOps]
          repeat (go_big_quiet_step (fail))
          refine wpQuiet_nil ?_
          refine wpAnyX_one 13 rfl (by kernel_rfl) (by kernel_rfl) ?_
          obtain ⟨y0, f0⟩ := KB6.out.at_ 0 (x := .slice none 0 0) rfl
          obtain ⟨y1, f1⟩ := KB6.out.at_ 1 (x := .slice none 0 0) rfl
          obtain ⟨y2, f2⟩ := KB6.out.at_ 2 (x := .slice none 0 0) rfl
          obtain ⟨y3, f3⟩ := KB6.out.at_ 3 (x := .slice none 0 0) rfl
          obtain ⟨y4, f4⟩ := KB6.out.at_ 4 (x := .int .i64 0) rfl
          have hkl := KB6.out.lt
          have htl := T6.out.size
          go_wp2_with fail
          refine ⟨⟨fun h => absurd (show true = false from h) (by decide), fun _ => trivial⟩, ?_⟩
          refine wpAnyX_done (by kernel_rfl) ?_
          clear y0 y1 y2 y3 y4 f0 f1 f2 f3 f4
          try dsimp only
          go_wp2_with fail
          go_meet
          exact ⟨D1, d1, D2, d2, D6, d6, _, rfl, Cp3.mk (P6x0.out.far5 (g := wc2.heap.size) (fun k hk => by have := lo1 k hk; have := hi1 k hk; omega) _ _ _ _ _) (P6x1.out.far5 (g := wc2.heap.size) (fun k hk => by have := lo2 k hk; have := hi2 k hk; omega) _ _ _ _ _) (P6x2.out.far5 (g := wc2.heap.size) (fun k hk => by have := lo6 k hk; have := hi6 k hk; omega) _ _ _ _ _) (fun x hx y hy => by have := hi1 x hx; have := lo2 y hy; omega) (fun x hx y hy => by have := hi1 x hx; have := lo6 y hy; omega) (fun x hx y hy => by have := hi2 x hx; have := lo6 y hy; omega) (fun x hx => by have := lo1 x hx; have := hi1 x hx; omega) (fun x hx => by have := lo2 x hx; have := hi2 x hx; omega) (fun x hx => by have := lo6 x hx; have := hi6 x hx; omega) (by omega) (KB6.out.set5 _ _ _ _ _) (below_set5 T6.out (by omega) _ _ _ _ _)⟩
      · go_wp2_with fail
        obtain ⟨wa7, hw7⟩ : ∃ wA, wA = wc1.alloc (.cells #[.slice none 0 0, .slice none 0 0, .slice none 0 0, .slice none 0 0, .int .i64 0] 31) := ⟨_, rfl⟩
        have T7 : Hid (Below W2.heap.size W2 wa7) := Lib.hid (by rw [hw7]; exact T1.out.alloc T1.out.size _)
        have KB7 : Hid (Bk wa7 wc1.heap.size #[.slice none 0 0, .slice none 0 0, .slice none 0 0, .slice none 0 0, .int .i64 0] 31) := Lib.hid (by rw [hw7]; exact Bk.new _ _ _)
        have z7 : wa7.heap.size = wc1.heap.size + 1 := by rw [hw7]; simp
        have P7x0 := Lib.hid (P1x0.out.below ((Below.refl _ _).alloc (Nat.le_refl _) (.cells #[.slice none 0 0, .slice none 0 0, .slice none 0 0, .slice none 0 0, .int .i64 0] 31)))
        rw [← hw7] at P7x0
        rw [← hw7]
        clear hw7
        refine ⟨⟨fun _ => ⟨⟨wa7, T7.out⟩, rfl⟩, fun _ => trivial⟩, ?_⟩
        refine wpAnyX_one 5 rfl (by kernel_rfl) (by kernel_rfl) ?_
        go_wp2_with fail
        refine (l01Copy _ B.w _ (HR.out.below T7.out).q hsm.2.1).mono ?_
        rintro e wc8 ⟨v8, bs8, rfl, ho8, lo8, hb8⟩
        obtain ⟨D8, d8, rfl, -, -⟩ := ho8.slice
        have hi8 := ho8.lt
        have T8 := Lib.hid (T7.out.trans (hb8.mono T7.out.size))
        have z8 := hb8.size
        have P8x0 := Lib.hid (P7x0.out.below hb8)
        have P8x1 := Lib.hid ho8
        have KB8 := Lib.hid (KB7.out.below hb8 KB7.out.lt)
        clear ho8 hb8
        try dsimp only
        go_wp2_with fail
        refine ⟨⟨fun _ => ⟨⟨wc8, T8.out⟩, rfl⟩, fun _ => trivial⟩, ?_⟩
        refine wpAnyX_one 8 rfl (by kernel_rfl) (by kernel_rfl) ?_
        go_wp2_with fail
        refine (l01Copy _ B.f _ (HR.out.below T8.out).f hsm.2.2).mono ?_
        rintro e wc9 ⟨v9, bs9, rfl, ho9, lo9, hb9⟩
        obtain ⟨D9, d9, rfl, -, -⟩ := ho9.slice
        have hi9 := ho9.lt
        have T9 := Lib.hid (T8.out.trans (hb9.mono T8.out.size))
        have z9 := hb9.size
        have P9x0 := Lib.hid (P8x0.out.below hb9)
        have P9x1 := Lib.hid (P8x1.out.below hb9)
        have P9x2 := Lib.hid ho9
        have KB9 := Lib.hid (KB8.out.below hb9 KB8.out.lt)
        clear ho9 hb9
        try dsimp only
        go_wp2_with fail
        refine ⟨⟨fun _ => ⟨⟨wc9, T9.out⟩, rfl⟩, fun _ => trivial⟩, ?_⟩
        refine wpAnyX_pass (C := (fun _ => True)) none [false, false, false, false, false, false, false, false, false, false, false, true] rfl (by kernel_rfl) (fun _ _ t _ _ h => by cases t <;> exact h) ⟨fun _ => ⟨⟨wc9, T9.out⟩, rfl⟩, fun _ => trivial⟩ ?_
        simp only [keepOps]
        repeat (go_big_quiet_step (fail))
        refine wpQuiet_nil ?_
        refine wpAnyX_one 13 rfl (by kernel_rfl) (by kernel_rfl) ?_
        obtain ⟨y0, f0⟩ := KB9.out.at_ 0 (x := .slice none 0 0) rfl
        obtain ⟨y1, f1⟩ := KB9.out.at_ 1 (x := .slice none 0 0) rfl
        obtain ⟨y2, f2⟩ := KB9.out.at_ 2 (x := .slice none 0 0) rfl
        obtain ⟨y3, f3⟩ := KB9.out.at_ 3 (x := .slice none 0 0) rfl
        obtain ⟨y4, f4⟩ := KB9.out.at_ 4 (x := .int .i64 0) rfl
        have hkl := KB9.out.lt
        have htl := T9.out.size
        go_wp2_with fail
        refine ⟨⟨fun h => absurd (show true = false from h) (by decide), fun _ => trivial⟩, ?_⟩
        refine wpAnyX_done (by kernel_rfl) ?_
        clear y0 y1 y2 y3 y4 f0 f1 f2 f3 f4
        try dsimp only
        go_wp2_with fail
        go_meet
        exact ⟨D1, d1, D8, d8, D9, d9, _, rfl, Cp3.mk (P9x0.out.far5 (g := wc1.heap.size) (fun k hk => by have := lo1 k hk; have := hi1 k hk; omega) _ _ _ _ _) (P9x1.out.far5 (g := wc1.heap.size) (fun k hk => by have := lo8 k hk; have := hi8 k hk; omega) _ _ _ _ _) (P9x2.out.far5 (g := wc1.heap.size) (fun k hk => by have := lo9 k hk; have := hi9 k hk; omega) _ _ _ _ _) (fun x hx y hy => by have := hi1 x hx; have := lo8 y hy; omega) (fun x hx y hy => by have := hi1 x hx; have := lo9 y hy; omega) (fun x hx y hy => by have := hi8 x hx; have := lo9 y hy; omega) (fun x hx => by have := lo1 x hx; have := hi1 x hx; omega) (fun x hx => by have := lo8 x hx; have := hi8 x hx; omega) (fun x hx => by have := lo9 x hx; have := hi9 x hx; omega) (by omega) (KB9.out.set5 _ _ _ _ _) (below_set5 T9.out (by omega) _ _ _ _ _)⟩
    · go_wp2_with fail
      obtain ⟨wa10, hw10⟩ : ∃ wA, wA = w0.alloc (.cells #[.slice none 0 0, .slice none 0 0, .slice none 0 0, .slice none 0 0, .int .i64 0] 31) := ⟨_, rfl⟩
      have T10 : Hid (Below W2.heap.size W2 wa10) := Lib.hid (by rw [hw10]; exact T0.out.alloc T0.out.size _)
      have KB10 : Hid (Bk wa10 w0.heap.size #[.slice none 0 0, .slice none 0 0, .slice none 0 0, .slice none 0 0, .int .i64 0] 31) := Lib.hid (by rw [hw10]; exact Bk.new _ _ _)
      have z10 : wa10.heap.size = w0.heap.size + 1 := by rw [hw10]; simp
      rw [← hw10]
      clear hw10
      refine ⟨⟨fun _ => ⟨⟨wa10, T10.out⟩, rfl⟩, fun _ => trivial⟩, ?_⟩
      refine wpAnyX_one 2 rfl (by kernel_rfl) (by kernel_rfl) ?_
      go_wp2_with fail
      refine (l01Copy _ B.l _ (HR.out.below T10.out).l hsm.1.1).mono ?_
      rintro e wc11 ⟨v11, bs11, rfl, ho11, lo11, hb11⟩
      obtain ⟨D11, d11, rfl, -, -⟩ := ho11.slice
      have hi11 := ho11.lt
      have T11 := Lib.hid (T10.out.trans (hb11.mono T10.out.size))
      have z11 := hb11.size
      have P11x0 := Lib.hid ho11
      have KB11 := Lib.hid (KB10.out.below hb11 KB10.out.lt)
      clear ho11 hb11
      try dsimp only
      go_wp2_with fail
      refine ⟨⟨fun _ => ⟨⟨wc11, T11.out⟩, rfl⟩, fun _ => trivial⟩, ?_⟩
      refine wpAnyX_one 5 rfl (by kernel_rfl) (by kernel_rfl) ?_
      go_wp2_with fail
      refine (l01Copy _ B.w _ (HR.out.below T11.out).q hsm.2.1).mono ?_
      rintro e wc12 ⟨v12, bs12, rfl, ho12, lo12, hb12⟩
      obtain ⟨D12, d12, rfl, -, -⟩ := ho12.slice
      have hi12 := ho12.lt
      have T12 := Lib.hid (T11.out.trans (hb12.mono T11.out.size))
      have z12 := hb12.size
      have P12x0 := Lib.hid (P11x0.out.below hb12)
      have P12x1 := Lib.hid ho12
      have KB12 := Lib.hid (KB11.out.below hb12 KB11.out.lt)
      clear ho12 hb12
      try dsimp only
      go_wp2_with fail
      refine ⟨⟨fun _ => ⟨⟨wc12, T12.out⟩, rfl⟩, fun _ => trivial⟩, ?_⟩
      refine wpAnyX_one 8 rfl (by kernel_rfl) (by kernel_rfl) ?_
      go_wp2_with fail
      refine (l01Copy _ B.f _ (HR.out.below T12.out).f hsm.2.2).mono ?_
      rintro e wc13 ⟨v13, bs13, rfl, ho13, lo13, hb13⟩
      obtain ⟨D13, d13, rfl, -, -⟩ := ho13.slice
      have hi13 := ho13.lt
      have T13 := Lib.hid (T12.out.trans (hb13.mono T12.out.size))
      have z13 := hb13.size
      have P13x0 := Lib.hid (P12x0.out.below hb13)
      have P13x1 := Lib.hid (P12x1.out.below hb13)
      have P13x2 := Lib.hid ho13
      have KB13 := Lib.hid (KB12.out.below hb13 KB12.out.lt)
      clear ho13 hb13
      try dsimp only
      go_wp2_with fail
      refine ⟨⟨fun _ => ⟨⟨wc13, T13.out⟩, rfl⟩, fun _ => trivial⟩, ?_⟩
      refine wpAnyX_pass (C := (fun _ => True)) none [false, false, false, false, false, false, false, false, false, false, false, true] rfl (by kernel_rfl) (fun _ _ t _ _ h => by cases t <;> exact h) ⟨fun _ => ⟨⟨wc13, T13.out⟩, rfl⟩, fun _ => trivial⟩ ?_
      simp only [keepOps]
      repeat (go_big_quiet_step (fail))
      refine wpQuiet_nil ?_
      refine wpAnyX_one 13 rfl (by kernel_rfl) (by kernel_rfl) ?_
      obtain ⟨y0, f0⟩ := KB13.out.at_ 0 (x := .slice none 0 0) rfl
      obtain ⟨y1, f1⟩ := KB13.out.at_ 1 (x := .slice none 0 0) rfl
      obtain ⟨y2, f2⟩ := KB13.out.at_ 2 (x := .slice none 0 0) rfl
      obtain ⟨y3, f3⟩ := KB13.out.at_ 3 (x := .slice none 0 0) rfl
      obtain ⟨y4, f4⟩ := KB13.out.at_ 4 (x := .int .i64 0) rfl
      have hkl := KB13.out.lt
      have htl := T13.out.size
      go_wp2_with fail
      refine ⟨⟨fun h => absurd (show true = false from h) (by decide), fun _ => trivial⟩, ?_⟩
      refine wpAnyX_done (by kernel_rfl) ?_
      clear y0 y1 y2 y3 y4 f0 f1 f2 f3 f4
      try dsimp only
      go_wp2_with fail
      go_meet
      exact ⟨D11, d11, D12, d12, D13, d13, _, rfl, Cp3.mk (P13x0.out.far5 (g := w0.heap.size) (fun k hk => by have := lo11 k hk; have := hi11 k hk; omega) _ _ _ _ _) (P13x1.out.far5 (g := w0.heap.size) (fun k hk => by have := lo12 k hk; have := hi12 k hk; omega) _ _ _ _ _) (P13x2.out.far5 (g := w0.heap.size) (fun k hk => by have := lo13 k hk; have := hi13 k hk; omega) _ _ _ _ _) (fun x hx y hy => by have := hi11 x hx; have := lo12 y hy; omega) (fun x hx y hy => by have := hi11 x hx; have := lo13 y hy; omega) (fun x hx y hy => by have := hi12 x hx; have := lo13 y hy; omega) (fun x hx => by have := lo11 x hx; have := hi11 x hx; omega) (fun x hx => by have := lo12 x hx; have := hi12 x hx; omega) (fun x hx => by have := lo13 x hx; have := hi13 x hx; omega) (by omega) (KB13.out.set5 _ _ _ _ _) (below_set5 T13.out (by omega) _ _ _ _ _)⟩
  case rest =>
    obtain ⟨D1, d1, D3, d3, D4, d4, g, rfl, b1, b3, b4, ⟨o1, o3, o4⟩, ⟨e1, e3⟩, ⟨q1, q3, q4⟩, hg, kg, hbz⟩ := hcut
    obtain ⟨i, hi, hiz0, hiz1, hiz2⟩ := info_parts infoHold
    have kb := K0.out.below hbz l0
    have kr := KR.out.below hbz KR.out.lt
    have hgl := kg.lt
    have hz := HZ2.out
    have i1 := o1.lt
    have i3 := o3.lt
    have i4 := o4.lt
    have hBz := Lib.hid (HB.out.trans (hbz.mono HB.out.size))
    have HBZ := Lib.hid hbz
    have hss := hbz.size
    clear x0 x2 x3 x4 HS KN HN hbz
    go_wp2_with fail
    go_loopw [4] (fun iv wr => ∃ (k : Nat) (v : Value), k ≤ B.h.length ∧ iv = .int .i64 k ∧ wr.ownsRow wc.heap.size 92 2 v k (flc2 (B.h.take k)) ∧ Bk wr g #[.slice D1 B.l.length d1, v, .slice D3 B.w.length d3, .slice D4 B.f.length d4, .int .i64 B.n] 31 ∧ Only [g] wc wr) (fun iv _ => B.h.length - (intOf iv).toNat)
    case atStart => exact ⟨0, .slice none 0 0, Nat.zero_le _, rfl, ⟨rfl, .inl ⟨rfl, rfl⟩⟩, kg, Only.refl _ _⟩
    case round =>
      obtain ⟨k, v, hk, rfl, hO, kv, hon⟩ := hrel
      clear kg
      have kbw := kb.only hon (by simp; omega)
      obtain ⟨A, cc, he, -, -, -, hr⟩ := HR.out.h
      injection he with ee1 ee3 ee2
      subst ee1 ee2
      clear ee3
      obtain ⟨t1, -⟩ := kbw.at_ 1 (x := .slice A2 B.h.length c2) rfl
      obtain ⟨v5, c5, rfl⟩ := owns_form' hO
      obtain ⟨u0, f0⟩ := kv.at_ 0 (x := .slice D1 B.l.length d1) rfl
      obtain ⟨u1, f1⟩ := kv.at_ 1 (x := .slice v5 k c5) rfl
      obtain ⟨u2, f2⟩ := kv.at_ 2 (x := .slice D3 B.w.length d3) rfl
      obtain ⟨u3, f3⟩ := kv.at_ 3 (x := .slice D4 B.f.length d4) rfl
      obtain ⟨u4, f4⟩ := kv.at_ 4 (x := .int .i64 B.n) rfl
      have hgw := kv.lt
      have hsw := hon.size
      by_cases hlt : k < B.h.length
      · obtain ⟨b, o, rfl, hb, hcell⟩ := hr (by omega)
        obtain ⟨e, hek, hx0, hx1⟩ := p2_at (fun j u hu => (World.cell?_of_block (a := ⟨b, o + j, none⟩) (hon.block b (by omega) (by simp; omega))).trans ((HBZ.out.cell (p := ⟨b, o + j, none⟩) hb).trans (hcell j u hu))) hlt
        obtain ⟨ea, eb⟩ := e
        simp only at hx0 hx1
        have HF : Hid (flc2 (B.h.take k) ++ [.int .i64 ea, .int .i64 eb] = flc2 (B.h.take (k + 1))) := Lib.hid (flc2_snoc hek.out)
        have hbw : b < wr.heap.size := by omega
        have p1 := fun q : Past wr => Past.cell hgw u1 q
        have p2 := fun q : Past wr => Past.cell kbw.lt t1 q
        have p3 := fun q : Past wr => Past.cell hbw hx0 q
        have p4 := fun q : Past wr => Past.cell hbw hx1 q
        clear hcell hr hx0 hx1 u0 u1 u2 u3 u4 f0 f1 f2 f3 f4
        go_wp2_with fail
        clear t1
        refine wp_region_two 8 8 (fun w' => ∃ q : Past wr, w' = q.v) (fun _ => True) (by kernel_rfl) ?_
        obtain ⟨w0, hw0⟩ : ∃ w0, w0 = wr.drew := ⟨_, rfl⟩
        have T0 : Hid (Below wr.heap.size wr w0) := Lib.hid (by rw [hw0]; exact (Below.refl _ _).drew)
        rw [← hw0]
        clear hw0
        refine wpAnyX_pass (C := (fun w' => ∃ q : Past wr, w' = q.v)) (some false) [true, true, true, true, true, true, true] rfl (by kernel_rfl) (fun _ _ t _ _ h => by cases t <;> exact h) ⟨fun _ => ⟨⟨w0, T0.out⟩, rfl⟩, fun _ => trivial⟩ ?_
        simp only [keepOps]
        repeat (go_big_quiet_step (fail))
        refine wpQuiet_nil ?_
        clear p1 p2 p3 p4
        refine wpAnyX_one 7 rfl (by kernel_rfl) (by kernel_rfl) ?_
        go_wp2_with fail
        obtain ⟨wA, hwA⟩ : ∃ wA, wA = w0.alloc (.cells #[.int .i64 ea, .int .i64 eb] 92) := ⟨_, rfl⟩
        have TA : Hid (Below wr.heap.size wr wA) := Lib.hid (by rw [hwA]; exact T0.out.alloc T0.out.size _)
        have hOA := (ownsRow_below hO T0.out).alloc (.cells #[.int .i64 ea, .int .i64 eb] 92)
        have kvA := (kv.below T0.out kv.lt).alloc (.cells #[.int .i64 ea, .int .i64 eb] 92)
        have hNC := new_cells w0 [.int .i64 ea, .int .i64 eb] 92
        have hsA := TA.out.size
        have hs0 : w0.heap.size < wA.heap.size := by rw [hwA]; simp
        rw [show ([.int .i64 ea, .int .i64 eb] : List Value).toArray = #[.int .i64 ea, .int .i64 eb] from rfl, ← hwA] at hNC
        rw [← hwA] at hOA kvA
        rw [← hwA]
        clear hwA
        refine ⟨⟨fun _ => ⟨⟨wA, TA.out⟩, rfl⟩, fun _ => trivial⟩, ?_⟩
        refine wpAnyX_one 8 rfl (by kernel_rfl) (by kernel_rfl) ?_
        refine wpList_append_own _ rfl _ _ 29 rfl wc.heap.size 92 i (.agg #[.int .i64 0, .int .i64 0]) 2 16 Try.underlying29 hi hiz0 hiz1 hiz2 rfl (by decide) _ _ _ rfl hOA ⟨w0.heap.size, 0, none⟩ 1 1 [.int .i64 ea, .int .i64 eb] rfl rfl hNC (by simp [Value.oneCell']) (by unfold maxLen; omega) (by omega) (by omega) ?_
        intro v9 w9 hO9 hg9 _
        obtain ⟨A9, c9, rfl⟩ := owns_form' hO9
        have k9 := kvA.grown hg9 (fun j hj => by have := (hOA.lt j hj).1; omega)
        have hb9 : Below wc.heap.size wr w9 := (TA.out.mono hsw).grown hg9 (by omega) (fun j hj => by have := (hOA.lt j hj).1; omega)
        obtain ⟨y1, x1⟩ := k9.at_ 1 (x := .slice v5 k c5) rfl
        rw [HF.out] at hO9
        have HFIN := Lib.hid (And.intro hO9 (And.intro k9 (hon.then_below hb9)))
        clear hO9 k9 hb9 hg9 hOA kvA hNC hO kv hon
        go_wp2_with fail
        refine ⟨⟨fun h => absurd (show true = false from h) (by decide), fun _ => trivial⟩, ?_⟩
        refine wpAnyX_pass (C := (fun _ => True)) none [false, false, false, false, false, false, false, false, false, true] rfl (by kernel_rfl) (fun _ _ t _ _ h => by cases t <;> exact h) ⟨fun h => absurd (show true = false from h) (by decide), fun _ => trivial⟩ ?_
        simp only [keepOps]
        repeat (go_big_quiet_step (fail))
        refine wpQuiet_nil ?_
        refine wpAnyX_one 10 rfl (by kernel_rfl) (by kernel_rfl) ?_
        go_wp2_with fail
        refine ⟨⟨fun h => absurd (show true = false from h) (by decide), fun _ => trivial⟩, ?_⟩
        refine wpAnyX_done (by kernel_rfl) ?_
        try dsimp only
        go_wp2_with fail
        obtain ⟨hO9, k9, hon9⟩ := HFIN.out
        exact ⟨⟨k + 1, _, by omega, by go_num, owns_far' hO9 hgl _, k9.set_ 1 _, hon9.trans (Only.setCell _ _)⟩, by simp [intOf]; omega⟩
      · obtain rfl : k = B.h.length := by omega
        obtain ⟨r0, s0⟩ := (kr.only hon (by simp; omega)).at_ 0 (x := .slice none 0 0) rfl
        obtain ⟨r1, s1⟩ := (kr.only hon (by simp; omega)).at_ 1 (x := .slice none 0 0) rfl
        obtain ⟨r2, s2⟩ := (kr.only hon (by simp; omega)).at_ 2 (x := .slice none 0 0) rfl
        obtain ⟨r3, s3⟩ := (kr.only hon (by simp; omega)).at_ 3 (x := .slice none 0 0) rfl
        obtain ⟨r4, s4⟩ := (kr.only hon (by simp; omega)).at_ 4 (x := .int .i64 0) rfl
        have qF := (kr.only hon (by simp; omega)).set5 (.slice D1 B.l.length d1) (.slice v5 B.h.length c5) (.slice D3 B.w.length d3) (.slice D4 B.f.length d4) (.int .i64 B.n)
        obtain ⟨zz0, -⟩ := qF.at_ 0 (x := .slice D1 B.l.length d1) rfl
        obtain ⟨zz1, -⟩ := qF.at_ 1 (x := .slice v5 B.h.length c5) rfl
        obtain ⟨zz2, -⟩ := qF.at_ 2 (x := .slice D3 B.w.length d3) rfl
        obtain ⟨zz3, -⟩ := qF.at_ 3 (x := .slice D4 B.f.length d4) rfl
        obtain ⟨zz4, -⟩ := qF.at_ 4 (x := .int .i64 B.n) rfl
        obtain ⟨b2, h2, lo2⟩ := Own.of_owns hO
        rw [List.take_length] at h2
        have o1' := o1.only hon (fun x hx hm => (q1 x hx).1 (by simpa using hm))
        have o3' := o3.only hon (fun x hx hm => (q3 x hx).1 (by simpa using hm))
        have o4' := o4.only hon (fun x hx hm => (q4 x hx).1 (by simpa using hm))
        have hBf := hBz.out.trans (hon.below (B := w.heap.size) (by have := hBz.out.size; omega) (by simp; omega))
        have HO2 := Lib.hid (And.intro o1' (And.intro h2 (And.intro o3' o4')))
        have HQ := Lib.hid (And.intro q1 (And.intro q3 q4))
        have HE := Lib.hid (And.intro e1 e3)
        have HI := Lib.hid (And.intro i1 (And.intro i3 i4))
        have HL2 := Lib.hid lo2
        have HBF := Lib.hid hBf
        have hsz9 := Lib.hid (And.intro hz (And.intro hss (And.intro hgl hsw)))
        clear hO kv kb kr hr hlt hk o1 o3 o4 kbw hon qF o1' o3' o4' h2 q1 q3 q4 e1 e3 i1 i3 i4 lo2 hBf hz hss hgl hsw hgw
        go_wp2_with fail
        obtain ⟨hz, hss, hgl, hsw⟩ := hsz9.out
        obtain ⟨o1', h2, o3', o4'⟩ := HO2.out
        obtain ⟨q1, q3, q4⟩ := HQ.out
        obtain ⟨e1, e3⟩ := HE.out
        obtain ⟨i1, i3, i4⟩ := HI.out
        have lo2 := HL2.out
        have hBf := HBF.out
        refine bodyPost_ret (v := .agg #[.slice D1 B.l.length d1, .slice v5 B.h.length c5, .slice D3 B.w.length d3, .slice D4 B.f.length d4, .int .i64 B.n]) (by simp [results, Try.results49, go_sem, zz0, zz1, zz2, zz3, zz4]) rfl ⟨_, _, _, _, b1 ++ (b2 ++ (b3 ++ b4)), rfl, ⟨b1, b2, b3, b4, ⟨o1'.far5 (fun x hx => ?_) _ _ _ _ _, h2.far5 (fun x hx => ?_) _ _ _ _ _, o3'.far5 (fun x hx => ?_) _ _ _ _ _, o4'.far5 (fun x hx => ?_) _ _ _ _ _⟩,
          ⟨fun x hx => ⟨fun hm => ?_, (e1 x hx).1, (e1 x hx).2⟩, fun x hx => ⟨fun hm => ?_, fun hm => ?_⟩, e3⟩, rfl⟩, fun x hx => ?_, below_set5 hBf (Nat.le_succ _) _ _ _ _ _⟩
        · have := (q1 x hx).2; omega
        · have := lo2 x hx; omega
        · have := (q3 x hx).2; omega
        · have := (q4 x hx).2; omega
        · have := i1 x hx; have := lo2 x hm; omega
        · have := i3 x hm; have := lo2 x hx; omega
        · have := i4 x hm; have := lo2 x hx; omega
        · simp only [List.mem_append] at hx
          rcases hx with hx | hx | hx | hx
          · have := (q1 x hx).2; omega
          · have := lo2 x hx; omega
          · have := (q3 x hx).2; omega
          · have := (q4 x hx).2; omega
end Go.Proofs.Ytiamkgkhamnaeaa
