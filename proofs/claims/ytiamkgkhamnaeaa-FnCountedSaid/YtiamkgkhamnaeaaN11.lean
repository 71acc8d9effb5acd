/- Contracts of the copies of a bench, told by typed rows: l01Copy, slices.Clone, spec.l09Copy, impl.copyBench. Condition: the bench's rows can be read; lengths that a law bounds. -/
import Derived.Test.YtiamkgkhamnaeaaN10
import Derived.Test.YtiamkgkhamnaeaaI2
namespace Go.Proofs.Ytiamkgkhamnaeaa
set_option maxRecDepth 20000
set_option linter.unusedSimpArgs false
set_option linter.unusedVariables false
open Go.ChangeShapes Go.WideShapes Go.ChangeAt Go.RowKit
set_option linter.unusedVariables false
def RetIntsT (L : List Int) (w : World) (e : Ending) (w' : World) : Prop :=
  ∃ v', e = .returned v' ∧ w'.ownsRow w.heap.size 3 1 v' L.length (ints L) ∧ Below w.heap.size w w'
def RetRow2 (t : TypeId) (L : List P2) (w : World) (e : Ending) (w' : World) : Prop :=
  ∃ v', e = .returned v' ∧ w'.ownsRow w.heap.size t 2 v' L.length (flc2 L) ∧ Below w.heap.size w w'
theorem owns_mono {w : World} {base base' : Nat} {e : TypeId} {size n : Nat} {v : Value} {L : List Value} (h : w.ownsRow base e size v n L) (hb : base' ≤ base) : w.ownsRow base' e size v n L :=
  ⟨h.1, h.2.imp id fun ⟨g, cap, cur, e, hg, r⟩ => ⟨g, cap, cur, e, Nat.le_trans hb hg, r⟩⟩
/-- no block in common -/
def Ap (u v : Value) : Prop := ∀ k, u.ownBlock = some k → v.ownBlock ≠ some k
theorem Ap.symm {u v : Value} (h : Ap u v) : Ap v u := fun k hk e => h k e hk
theorem Only.grownOne {g : Nat} {w w' : World} (h : Only [g] w w') : w.grownBy w' (some g) := ⟨h.os, h.tape, h.output, h.size, fun i hi hn => h.block i hi (by simp; intro e; exact hn (by rw [e]))⟩
theorem owns_ne {w w' : World} {base : Nat} {e : TypeId} {size n : Nat} {v : Value} {L : List Value} {g : Nat} (h : w.ownsRow base e size v n L) (hne : v.ownBlock ≠ some g) (ho : Only [g] w w') : w'.ownsRow base e size v n L := h.kept ho.grownOne (.inr hne)
theorem only_set5 (w : World) (g : Nat) (v0 v1 v2 v3 v4 : Value) : Only [g] w (((((w.setCell ⟨g, 0, none⟩ v0).setCell ⟨g, 1, none⟩ v1).setCell ⟨g, 2, none⟩ v2).setCell ⟨g, 3, none⟩ v3).setCell ⟨g, 4, none⟩ v4) :=
  ((((Only.setCell _ _).trans (Only.setCell _ _)).trans (Only.setCell _ _)).trans (Only.setCell _ _)).trans (Only.setCell _ _)
theorem owns_set5 {w : World} {base : Nat} {e : TypeId} {size n : Nat} {v : Value} {L : List Value} {g : Nat} (h : w.ownsRow base e size v n L) (hne : v.ownBlock ≠ some g) (v0 v1 v2 v3 v4 : Value) :
    (((((w.setCell ⟨g, 0, none⟩ v0).setCell ⟨g, 1, none⟩ v1).setCell ⟨g, 2, none⟩ v2).setCell ⟨g, 3, none⟩ v3).setCell ⟨g, 4, none⟩ v4).ownsRow base e size v n L := owns_ne h hne (only_set5 w g v0 v1 v2 v3 v4)
/-- a bench's four rows, typed, above lo, in blocks apart -/
structure OwnBT (w : World) (lo : Nat) (a b c d : Value) (B : Bn) : Prop where
  l : w.ownsRow lo 3 1 a B.l.length (ints B.l)
  h : w.ownsRow lo 92 2 b B.h.length (flc2 B.h)
  q : w.ownsRow lo 3 1 c B.w.length (ints B.w)
  f : w.ownsRow lo 3 1 d B.f.length (ints B.f)
  ab : Ap a b
  ac : Ap a c
  ad : Ap a d
  bc : Ap b c
  bd : Ap b d
  cd : Ap c d
theorem own_of_typed {w : World} {base : Nat} {e : TypeId} {size n : Nat} {v : Value} {L : List Value} (h : w.ownsRow base e size v n L) : ∃ bs, Own w v size n L bs ∧ ∀ b ∈ bs, v.ownBlock = some b := by
  obtain ⟨hl, ⟨rfl, rfl⟩ | ⟨g, cap, cur, rfl, hb, hg, hn, hm, hc, ht⟩⟩ := id h
  · exact ⟨[], ⟨none, 0, rfl, hl, Nat.le_refl _, by simp [maxLen], .inl ⟨rfl, rfl⟩⟩, by simp⟩
  · obtain ⟨bs, h1, h2⟩ := Own.of_owns h
    refine ⟨bs, h1, fun b hb => ?_⟩
    obtain ⟨A, c, he, -, -, -, ⟨-, rfl⟩ | ⟨-, b', o, hA, rfl, -, -⟩⟩ := h1
    · simp at hb
    · injection he with e1
      rw [hA] at e1
      injection e1 with e1
      injection e1 with e1
      rw [List.mem_singleton.1 hb, ← e1]
      rfl
theorem OwnBT.own {w : World} {lo : Nat} {a b c d : Value} {B : Bn} (h : OwnBT w lo a b c d B) : ∃ bs, OwnBn w a b c d B bs ∧ ∀ x ∈ bs, lo ≤ x := by
  obtain ⟨b1, h1, m1⟩ := own_of_typed h.l
  obtain ⟨b2, h2, m2⟩ := own_of_typed h.h
  obtain ⟨b3, h3, m3⟩ := own_of_typed h.q
  obtain ⟨b4, h4, m4⟩ := own_of_typed h.f
  refine ⟨_, ⟨b1, b2, b3, b4, ⟨h1, h2, h3, h4⟩, ⟨fun x hx => ⟨fun hy => h.ab x (m1 x hx) (m2 x hy), fun hy => h.ac x (m1 x hx) (m3 x hy), fun hy => h.ad x (m1 x hx) (m4 x hy)⟩, fun x hx => ⟨fun hy => h.bc x (m2 x hx) (m3 x hy), fun hy => h.bd x (m2 x hx) (m4 x hy)⟩, fun x hx hy => h.cd x (m3 x hx) (m4 x hy)⟩, rfl⟩, fun x hx => ?_⟩
  simp only [List.mem_append] at hx
  rcases hx with hx | hx | hx | hx
  · exact (h.l.lt x (m1 x hx)).1
  · exact (h.h.lt x (m2 x hx)).1
  · exact (h.q.lt x (m3 x hx)).1
  · exact (h.f.lt x (m4 x hx)).1
theorem OwnBT.below {w w' : World} {lo : Nat} {a b c d : Value} {B : Bn} (h : OwnBT w lo a b c d B) (hb : Below w.heap.size w w') : OwnBT w' lo a b c d B := ⟨ownsRow_below h.l hb, ownsRow_below h.h hb, ownsRow_below h.q hb, ownsRow_below h.f hb, h.ab, h.ac, h.ad, h.bc, h.bd, h.cd⟩
def RetBnT (B : Bn) (w : World) (e : Ending) (w' : World) : Prop :=
  ∃ a b c d, e = .returned (.agg #[a, b, c, d, .int .i64 B.n]) ∧ OwnBT w' w.heap.size a b c d B ∧ Below w.heap.size w w'
set_option maxHeartbeats 400000 in
theorem l01CopyT (v : Value) (xs : List Int) (w : World) (h : Rd w v 1 xs.length (ints xs)) (hsz : xs.length ≤ 16777216) :
    Calls Try.prog 90 #[v] w (RetIntsT xs w) := by
  obtain ⟨A, c, rfl, -, hnc, hc, hr⟩ := h
  unfold maxLen at hc
  obtain ⟨i, hi, hiz0, hiz1, hiz2⟩ := info_parts infoInt
  go_enter Try.func90, Try.ntmps90
  go_wp2_with fail
  go_loopw [3, 4] (fun v i wr => ∃ k : Nat, k ≤ xs.length ∧ i = .int .i64 k ∧ wr.ownsRow w.heap.size 3 1 v k (ints (xs.take k)) ∧ Below w.heap.size w wr) (fun _ i _ => xs.length - (intOf i).toNat)
  case atStart => exact ⟨0, Nat.zero_le _, rfl, World.ownsRow_lit w #[] 0 (Nat.le_refl _) (by simp [maxLen]) rfl, (Below.refl _ _).alloc (Nat.le_refl _) _⟩
  case round =>
    obtain ⟨k, hk, rfl, hO, hB⟩ := hrel
    by_cases hlt : k < xs.length
    · obtain ⟨b, o, rfl, hb, hcell⟩ := hr (by omega)
      have hcell' : ∀ j u, (ints xs)[j]? = some u → wr.cell? ⟨b, o + j, none⟩ = some u := fun j u hu => (hB.cell (p := ⟨b, o + j, none⟩) hb).trans (hcell j u hu)
      obtain ⟨x, hxk, hx⟩ := int_at hcell' hlt
      clear hcell hcell' hr
      have hbw : b < wr.heap.size := Nat.lt_of_lt_of_le hb hB.size
      go_wp2_with ((at_builtin; refine wpList_append_own _ rfl _ _ 22 rfl (w.heap.size) 3 i (.int .i64 0) 1 8 Try.underlying22 hi hiz0 hiz1 hiz2 rfl (by decide) _ _ _ rfl (hO.alloc _) ⟨wr.heap.size, 0, none⟩ 1 1 [.int .i64 x] rfl rfl ?c1 ?c2 ?c3 ?c4 ?c5 ?_))
      case c1 => exact new_cells _ _ _
      case c2 => simp [Value.oneCell']
      case c3 => unfold maxLen; omega
      case c4 => omega
      case c5 => have := hB.size; simp; omega
      intro v' w1 hown' hgrow _
      have hB' := (hB.alloc hB.size _).grown hgrow (by have := hB.size; simp; omega) (fun k hk => by have := (hO.lt k hk).1; omega)
      rw [ints_snoc hxk.out] at hown'
      clear hgrow
      go_wp2_with fail
      exact ⟨⟨k + 1, by omega, by go_num, hown', hB'⟩, by simp [intOf]; omega⟩
    · go_wp2_with fail
      go_ret
      obtain rfl : k = xs.length := by omega
      rw [List.take_length] at hO
      exact ⟨_, rfl, hO, hB⟩
/-- three rows of the call's own and the box of the copy -/
def Cp3T (B : Bn) (lo : Nat) (w : World) (a c d : Value) (g : Nat) (wz : World) : Prop :=
  (wz.ownsRow lo 3 1 a B.l.length (ints B.l) ∧ wz.ownsRow lo 3 1 c B.w.length (ints B.w) ∧ wz.ownsRow lo 3 1 d B.f.length (ints B.f)) ∧ (Ap a c ∧ Ap a d ∧ Ap c d) ∧
    (a.ownBlock ≠ some g ∧ c.ownBlock ≠ some g ∧ d.ownBlock ≠ some g) ∧ lo ≤ g ∧ Bk wz g #[a, .slice none 0 0, c, d, .int .i64 B.n] 31 ∧ Below lo w wz
set_option maxHeartbeats 6400000 in
theorem l09CopyT (a b c d : Value) (B : Bn) (w : World) (r : RdBn w a b c d B) (hsz : szBn B ≤ 16777216) :
    Calls Try.prog 49 #[.agg #[a, b, c, d, .int .i64 B.n]] w (RetBnT B w) := by
  obtain ⟨A1, c1, A2, c2, A3, c3, A4, c4, ⟨rfl, rfl, rfl, rfl⟩, ⟨g1, g2, g3, g4⟩, ⟨k1, k2, k3, k4⟩⟩ := r.slices
  have hsm : (B.l.length ≤ 16777216 ∧ B.h.length ≤ 16777216) ∧ B.w.length ≤ 16777216 ∧ B.f.length ≤ 16777216 := by unfold szBn at hsz; omega
  have hB := ((Below.refl w.heap.size w).alloc (Nat.le_refl _) (.cells #[.slice A1 B.l.length c1, .slice A2 B.h.length c2, .slice A3 B.w.length c3, .slice A4 B.f.length c4, .int .i64 B.n] 31)).alloc (by simp) (.cells #[.slice none 0 0, .slice none 0 0, .slice none 0 0, .slice none 0 0, .int .i64 0] 31)
  have k0 := (Bk.new w #[.slice A1 B.l.length c1, .slice A2 B.h.length c2, .slice A3 B.w.length c3, .slice A4 B.f.length c4, .int .i64 B.n] 31).alloc (.cells #[.slice none 0 0, .slice none 0 0, .slice none 0 0, .slice none 0 0, .int .i64 0] 31)
  have kr := Bk.new (w.alloc (.cells #[.slice A1 B.l.length c1, .slice A2 B.h.length c2, .slice A3 B.w.length c3, .slice A4 B.f.length c4, .int .i64 B.n] 31)) #[.slice none 0 0, .slice none 0 0, .slice none 0 0, .slice none 0 0, .int .i64 0] 31
  rw [World.size_alloc] at kr
  obtain ⟨W2, hW2⟩ : ∃ W2, W2 = (w.alloc (.cells #[.slice A1 B.l.length c1, .slice A2 B.h.length c2, .slice A3 B.w.length c3, .slice A4 B.f.length c4, .int .i64 B.n] 31)).alloc (.cells #[.slice none 0 0, .slice none 0 0, .slice none 0 0, .slice none 0 0, .int .i64 0] 31) := ⟨_, rfl⟩
  have hz2 : W2.heap.size = w.heap.size + 2 := by rw [hW2]; simp
  rw [← hW2] at hB k0 kr
  have HW2 := Lib.hid hW2
  have HZ2 := Lib.hid hz2
  have HB := Lib.hid hB
  have K0 := Lib.hid k0
  have KR := Lib.hid kr
  have HR := Lib.hid (r.below hB)
  have l0 := k0.lt
  have HS : Hid (∀ W : World, Below W2.heap.size W2 W → Below W2.heap.size W2 W ∧ W.cell? ⟨w.heap.size, 0, none⟩ = some (.slice A1 B.l.length c1) ∧ W.cell? ⟨w.heap.size, 2, none⟩ = some (.slice A3 B.w.length c3) ∧ W.cell? ⟨w.heap.size, 3, none⟩ = some (.slice A4 B.f.length c4) ∧ W.cell? ⟨w.heap.size, 4, none⟩ = some (.int .i64 B.n)) :=
    Lib.hid fun W hW => ⟨hW, ((K0.out.below hW l0).at_ 0 rfl).1, ((K0.out.below hW l0).at_ 2 rfl).1, ((K0.out.below hW l0).at_ 3 rfl).1, ((K0.out.below hW l0).at_ 4 rfl).1⟩
  have KN : Hid (Bk ((W2.alloc (.cells #[.slice none 0 0, .slice none 0 0, .slice none 0 0, .slice none 0 0, .int .i64 0] 31)).drew) W2.heap.size #[.slice none 0 0, .slice none 0 0, .slice none 0 0, .slice none 0 0, .int .i64 0] 31) := Lib.hid (Bk.new W2 _ _)
  have HN : Hid (Below W2.heap.size W2 (W2.alloc (.cells #[.slice none 0 0, .slice none 0 0, .slice none 0 0, .slice none 0 0, .int .i64 0] 31)).drew) := Lib.hid ((Below.refl _ W2).alloc (Nat.le_refl _) _).drew
  obtain ⟨x0, -⟩ := k0.at_ 0 (x := .slice A1 B.l.length c1) rfl
  obtain ⟨x2, -⟩ := k0.at_ 2 (x := .slice A3 B.w.length c3) rfl
  obtain ⟨x3, -⟩ := k0.at_ 3 (x := .slice A4 B.f.length c4) rfl
  obtain ⟨x4, -⟩ := k0.at_ 4 (x := .int .i64 B.n) rfl
  clear hW2 hz2 hB k0 kr r hsz
  go_enter Try.func49, Try.ntmps49
  go_wp2_with fail
  rw [← HW2.out]
  go_cut [3] (fun p wz => ∃ (D1 : Option Addr) (d1 : Nat) (D3 : Option Addr) (d3 : Nat) (D4 : Option Addr) (d4 : Nat) (g : Nat), p = .pointer (some ⟨g, 0, none⟩) ∧ Cp3T B W2.heap.size W2 (.slice D1 B.l.length d1) (.slice D3 B.w.length d3) (.slice D4 B.f.length d4) g wz)
  case first =>
    refine wp_region_two 13 13 (fun w' => ∃ q : Past W2, w' = q.v) (fun _ => True) (by kernel_rfl) ?_
    obtain ⟨w0, hw0⟩ : ∃ w0, w0 = W2.drew := ⟨_, rfl⟩
    have T0 : Hid (Below W2.heap.size W2 w0) := Lib.hid (by rw [hw0]; exact (Below.refl _ _).drew)
    have z0 : W2.heap.size ≤ w0.heap.size ∧ w0.heap.size ≤ W2.heap.size := by rw [hw0]; exact ⟨Nat.le_refl _, Nat.le_refl _⟩
    rw [← hw0]
    clear hw0
    have p0 := fun q : Past W2 => Past.cell l0 x0 q
    have p2 := fun q : Past W2 => Past.cell l0 x2 q
    have p3 := fun q : Past W2 => Past.cell l0 x3 q
    have p4 := fun q : Past W2 => Past.cell l0 x4 q
    clear x0 x2 x3 x4 HS KN HN
    refine wpAnyX_pass (C := (fun w' => ∃ q : Past W2, w' = q.v)) (some false) [true, true, false, true, true, false, true, true, false, true, true] rfl (by kernel_rfl) (fun _ _ t _ _ h => by cases t <;> exact h) ⟨fun _ => ⟨⟨w0, T0.out⟩, rfl⟩, fun _ => trivial⟩ ?_
    simp only [keepOps]
    repeat (go_big_quiet_step (fail))
    refine wpQuiet_nil ?_
    clear p0 p2 p3 p4
    refine wpAnyX_two 2 12 rfl rfl (by kernel_rfl) (by kernel_rfl) ?_ ?_
    · go_wp2_with fail
      refine (l01CopyT _ B.l _ (HR.out.below T0.out).l hsm.1.1).mono ?_
      rintro e wc1 ⟨v1, rfl, ho1, hb1⟩
      obtain ⟨D1, d1, rfl⟩ := owns_form' ho1
      have lt1 := Lib.hid ho1.lt
      have T1 := Lib.hid (T0.out.trans (hb1.mono T0.out.size))
      have z1 := hb1.size
      have P1x0 := Lib.hid ho1
      clear ho1 hb1
      try dsimp only
      go_wp2_with fail
      refine ⟨⟨fun _ => ⟨⟨wc1, T1.out⟩, rfl⟩, fun _ => trivial⟩, ?_⟩
      refine wpAnyX_two 5 12 rfl rfl (by kernel_rfl) (by kernel_rfl) ?_ ?_
      · go_wp2_with fail
        refine (l01CopyT _ B.w _ (HR.out.below T1.out).q hsm.2.1).mono ?_
        rintro e wc2 ⟨v2, rfl, ho2, hb2⟩
        obtain ⟨D2, d2, rfl⟩ := owns_form' ho2
        have lt2 := Lib.hid ho2.lt
        have T2 := Lib.hid (T1.out.trans (hb2.mono T1.out.size))
        have z2 := hb2.size
        have P2x0 := Lib.hid (ownsRow_below P1x0.out hb2)
        have P2x1 := Lib.hid ho2
        clear ho2 hb2
        try dsimp only
        go_wp2_with fail
        refine ⟨⟨fun _ => ⟨⟨wc2, T2.out⟩, rfl⟩, fun _ => trivial⟩, ?_⟩
        refine wpAnyX_two 8 12 rfl rfl (by kernel_rfl) (by kernel_rfl) ?_ ?_
        · go_wp2_with fail
          refine (l01CopyT _ B.f _ (HR.out.below T2.out).f hsm.2.2).mono ?_
          rintro e wc3 ⟨v3, rfl, ho3, hb3⟩
          obtain ⟨D3, d3, rfl⟩ := owns_form' ho3
          have lt3 := Lib.hid ho3.lt
          have T3 := Lib.hid (T2.out.trans (hb3.mono T2.out.size))
          have z3 := hb3.size
          have P3x0 := Lib.hid (ownsRow_below P2x0.out hb3)
          have P3x1 := Lib.hid (ownsRow_below P2x1.out hb3)
          have P3x2 := Lib.hid ho3
          clear ho3 hb3
          try dsimp only
          go_wp2_with fail
          refine ⟨⟨fun _ => ⟨⟨wc3, T3.out⟩, rfl⟩, fun _ => trivial⟩, ?_⟩
          refine wpAnyX_pass (C := (fun _ => True)) none [false, false, false, false, false, false, false, false, false, false, false, true] rfl (by kernel_rfl) (fun _ _ t _ _ h => by cases t <;> exact h) ⟨fun _ => ⟨⟨wc3, T3.out⟩, rfl⟩, fun _ => trivial⟩ ?_
          simp only [keepOps]
          repeat (go_big_quiet_step (fail))
          refine wpQuiet_nil ?_
          refine wpAnyX_one 12 rfl (by kernel_rfl) (by kernel_rfl) ?_
          go_wp2_with fail
          obtain ⟨wa4, hw4⟩ : ∃ wA, wA = wc3.alloc (.cells #[.slice none 0 0, .slice none 0 0, .slice none 0 0, .slice none 0 0, .int .i64 0] 31) := ⟨_, rfl⟩
          have T4 : Hid (Below W2.heap.size W2 wa4) := Lib.hid (by rw [hw4]; exact T3.out.alloc T3.out.size _)
          have KB4 : Hid (Bk wa4 wc3.heap.size #[.slice none 0 0, .slice none 0 0, .slice none 0 0, .slice none 0 0, .int .i64 0] 31) := Lib.hid (by rw [hw4]; exact Bk.new _ _ _)
          have z4 : wa4.heap.size = wc3.heap.size + 1 := by rw [hw4]; simp
          have P4x0 := Lib.hid (P3x0.out.alloc (.cells #[.slice none 0 0, .slice none 0 0, .slice none 0 0, .slice none 0 0, .int .i64 0] 31))
          rw [← hw4] at P4x0
          have P4x1 := Lib.hid (P3x1.out.alloc (.cells #[.slice none 0 0, .slice none 0 0, .slice none 0 0, .slice none 0 0, .int .i64 0] 31))
          rw [← hw4] at P4x1
          have P4x2 := Lib.hid (P3x2.out.alloc (.cells #[.slice none 0 0, .slice none 0 0, .slice none 0 0, .slice none 0 0, .int .i64 0] 31))
          rw [← hw4] at P4x2
          rw [← hw4]
          clear hw4
          refine ⟨⟨fun _ => ⟨⟨wa4, T4.out⟩, rfl⟩, fun _ => trivial⟩, ?_⟩
          refine wpAnyX_one 13 rfl (by kernel_rfl) (by kernel_rfl) ?_
          obtain ⟨y0, f0⟩ := KB4.out.at_ 0 (x := .slice none 0 0) rfl
          obtain ⟨y1, f1⟩ := KB4.out.at_ 1 (x := .slice none 0 0) rfl
          obtain ⟨y2, f2⟩ := KB4.out.at_ 2 (x := .slice none 0 0) rfl
          obtain ⟨y3, f3⟩ := KB4.out.at_ 3 (x := .slice none 0 0) rfl
          obtain ⟨y4, f4⟩ := KB4.out.at_ 4 (x := .int .i64 0) rfl
          have hkl := KB4.out.lt
          have htl := T4.out.size
          go_wp2_with fail
          refine ⟨⟨fun h => absurd (show true = false from h) (by decide), fun _ => trivial⟩, ?_⟩
          refine wpAnyX_done (by kernel_rfl) ?_
          clear y0 y1 y2 y3 y4 f0 f1 f2 f3 f4
          try dsimp only
          go_wp2_with fail
          go_meet
          exact ⟨D1, d1, D2, d2, D3, d3, _, rfl, ⟨(owns_set5 (owns_mono P4x0.out (by omega)) (fun e9 => by have := lt1.out _ e9; omega) _ _ _ _ _), (owns_set5 (owns_mono P4x1.out (by omega)) (fun e9 => by have := lt2.out _ e9; omega) _ _ _ _ _), (owns_set5 (owns_mono P4x2.out (by omega)) (fun e9 => by have := lt3.out _ e9; omega) _ _ _ _ _)⟩, ⟨(fun k hk e9 => by have := lt1.out k hk; have := lt2.out k e9; omega), (fun k hk e9 => by have := lt1.out k hk; have := lt3.out k e9; omega), (fun k hk e9 => by have := lt2.out k hk; have := lt3.out k e9; omega)⟩, ⟨(fun e9 => by have := lt1.out _ e9; omega), (fun e9 => by have := lt2.out _ e9; omega), (fun e9 => by have := lt3.out _ e9; omega)⟩, by omega, KB4.out.set5 _ _ _ _ _, below_set5 T4.out (by omega) _ _ _ _ _⟩
        · go_wp2_with fail
          obtain ⟨wa5, hw5⟩ : ∃ wA, wA = wc2.alloc (.cells #[.slice none 0 0, .slice none 0 0, .slice none 0 0, .slice none 0 0, .int .i64 0] 31) := ⟨_, rfl⟩
          have T5 : Hid (Below W2.heap.size W2 wa5) := Lib.hid (by rw [hw5]; exact T2.out.alloc T2.out.size _)
          have KB5 : Hid (Bk wa5 wc2.heap.size #[.slice none 0 0, .slice none 0 0, .slice none 0 0, .slice none 0 0, .int .i64 0] 31) := Lib.hid (by rw [hw5]; exact Bk.new _ _ _)
          have z5 : wa5.heap.size = wc2.heap.size + 1 := by rw [hw5]; simp
          have P5x0 := Lib.hid (P2x0.out.alloc (.cells #[.slice none 0 0, .slice none 0 0, .slice none 0 0, .slice none 0 0, .int .i64 0] 31))
          rw [← hw5] at P5x0
          have P5x1 := Lib.hid (P2x1.out.alloc (.cells #[.slice none 0 0, .slice none 0 0, .slice none 0 0, .slice none 0 0, .int .i64 0] 31))
          rw [← hw5] at P5x1
          rw [← hw5]
          clear hw5
          refine ⟨⟨fun _ => ⟨⟨wa5, T5.out⟩, rfl⟩, fun _ => trivial⟩, ?_⟩
          refine wpAnyX_one 8 rfl (by kernel_rfl) (by kernel_rfl) ?_
          go_wp2_with fail
          refine (l01CopyT _ B.f _ (HR.out.below T5.out).f hsm.2.2).mono ?_
          rintro e wc6 ⟨v6, rfl, ho6, hb6⟩
          obtain ⟨D6, d6, rfl⟩ := owns_form' ho6
          have lt6 := Lib.hid ho6.lt
          have T6 := Lib.hid (T5.out.trans (hb6.mono T5.out.size))
          have z6 := hb6.size
          have P6x0 := Lib.hid (ownsRow_below P5x0.out hb6)
          have P6x1 := Lib.hid (ownsRow_below P5x1.out hb6)
          have P6x2 := Lib.hid ho6
          have KB6 := Lib.hid (KB5.out.below hb6 KB5.out.lt)
          clear ho6 hb6
          try dsimp only
          go_wp2_with fail
          refine ⟨⟨fun _ => ⟨⟨wc6, T6.out⟩, rfl⟩, fun _ => trivial⟩, ?_⟩
          refine wpAnyX_pass (C := (fun _ => True)) none [false, false, false, false, false, false, false, false, false, false, false, true] rfl (by kernel_rfl) (fun _ _ t _ _ h => by cases t <;> exact h) ⟨fun _ => ⟨⟨wc6, T6.out⟩, rfl⟩, fun _ => trivial⟩ ?_
          simp only [keepOps]
          repeat (go_big_quiet_step (fail))
          refine wpQuiet_nil ?_
          refine wpAnyX_one 13 rfl (by kernel_rfl) (by kernel_rfl) ?_
          obtain ⟨y0, f0⟩ := KB6.out.at_ 0 (x := .slice none 0 0) rfl
          obtain ⟨y1, f1⟩ := KB6.out.at_ 1 (x := .slice none 0 0) rfl
          obtain ⟨y2, f2⟩ := KB6.out.at_ 2 (x := .slice none 0 0) rfl
          obtain ⟨y3, f3⟩ := KB6.out.at_ 3 (x := .slice none 0 0) rfl
          obtain ⟨y4, f4⟩ := KB6.out.at_ 4 (x := .int .i64 0) rfl
          have hkl := KB6.out.lt
          have htl := T6.out.size
          go_wp2_with fail
          refine ⟨⟨fun h => absurd (show true = false from h) (by decide), fun _ => trivial⟩, ?_⟩
          refine wpAnyX_done (by kernel_rfl) ?_
          clear y0 y1 y2 y3 y4 f0 f1 f2 f3 f4
          try dsimp only
          go_wp2_with fail
          go_meet
          exact ⟨D1, d1, D2, d2, D6, d6, _, rfl, ⟨(owns_set5 (owns_mono P6x0.out (by omega)) (fun e9 => by have := lt1.out _ e9; omega) _ _ _ _ _), (owns_set5 (owns_mono P6x1.out (by omega)) (fun e9 => by have := lt2.out _ e9; omega) _ _ _ _ _), (owns_set5 (owns_mono P6x2.out (by omega)) (fun e9 => by have := lt6.out _ e9; omega) _ _ _ _ _)⟩, ⟨(fun k hk e9 => by have := lt1.out k hk; have := lt2.out k e9; omega), (fun k hk e9 => by have := lt1.out k hk; have := lt6.out k e9; omega), (fun k hk e9 => by have := lt2.out k hk; have := lt6.out k e9; omega)⟩, ⟨(fun e9 => by have := lt1.out _ e9; omega), (fun e9 => by have := lt2.out _ e9; omega), (fun e9 => by have := lt6.out _ e9; omega)⟩, by omega, KB6.out.set5 _ _ _ _ _, below_set5 T6.out (by omega) _ _ _ _ _⟩
      · go_wp2_with fail
        obtain ⟨wa7, hw7⟩ : ∃ wA, wA = wc1.alloc (.cells #[.slice none 0 0, .slice none 0 0, .slice none 0 0, .slice none 0 0, .int .i64 0] 31) := ⟨_, rfl⟩
        have T7 : Hid (Below W2.heap.size W2 wa7) := Lib.hid (by rw [hw7]; exact T1.out.alloc T1.out.size _)
        have KB7 : Hid (Bk wa7 wc1.heap.size #[.slice none 0 0, .slice none 0 0, .slice none 0 0, .slice none 0 0, .int .i64 0] 31) := Lib.hid (by rw [hw7]; exact Bk.new _ _ _)
        have z7 : wa7.heap.size = wc1.heap.size + 1 := by rw [hw7]; simp
        have P7x0 := Lib.hid (P1x0.out.alloc (.cells #[.slice none 0 0, .slice none 0 0, .slice none 0 0, .slice none 0 0, .int .i64 0] 31))
        rw [← hw7] at P7x0
        rw [← hw7]
        clear hw7
        refine ⟨⟨fun _ => ⟨⟨wa7, T7.out⟩, rfl⟩, fun _ => trivial⟩, ?_⟩
        refine wpAnyX_one 5 rfl (by kernel_rfl) (by kernel_rfl) ?_
        go_wp2_with fail
        refine (l01CopyT _ B.w _ (HR.out.below T7.out).q hsm.2.1).mono ?_
        rintro e wc8 ⟨v8, rfl, ho8, hb8⟩
        obtain ⟨D8, d8, rfl⟩ := owns_form' ho8
        have lt8 := Lib.hid ho8.lt
        have T8 := Lib.hid (T7.out.trans (hb8.mono T7.out.size))
        have z8 := hb8.size
        have P8x0 := Lib.hid (ownsRow_below P7x0.out hb8)
        have P8x1 := Lib.hid ho8
        have KB8 := Lib.hid (KB7.out.below hb8 KB7.out.lt)
        clear ho8 hb8
        try dsimp only
        go_wp2_with fail
        refine ⟨⟨fun _ => ⟨⟨wc8, T8.out⟩, rfl⟩, fun _ => trivial⟩, ?_⟩
        refine wpAnyX_one 8 rfl (by kernel_rfl) (by kernel_rfl) ?_
        go_wp2_with fail
        refine (l01CopyT _ B.f _ (HR.out.below T8.out).f hsm.2.2).mono ?_
        rintro e wc9 ⟨v9, rfl, ho9, hb9⟩
        obtain ⟨D9, d9, rfl⟩ := owns_form' ho9
        have lt9 := Lib.hid ho9.lt
        have T9 := Lib.hid (T8.out.trans (hb9.mono T8.out.size))
        have z9 := hb9.size
        have P9x0 := Lib.hid (ownsRow_below P8x0.out hb9)
        have P9x1 := Lib.hid (ownsRow_below P8x1.out hb9)
        have P9x2 := Lib.hid ho9
        have KB9 := Lib.hid (KB8.out.below hb9 KB8.out.lt)
        clear ho9 hb9
        try dsimp only
        go_wp2_with fail
        refine ⟨⟨fun _ => ⟨⟨wc9, T9.out⟩, rfl⟩, fun _ => trivial⟩, ?_⟩
        refine wpAnyX_pass (C := (fun _ => True)) none [false, false, false, false, false, false, false, false, false, false, false, true] rfl (by kernel_rfl) (fun _ _ t _ _ h => by cases t <;> exact h) ⟨fun _ => ⟨⟨wc9, T9.out⟩, rfl⟩, fun _ => trivial⟩ ?_
        simp only [keepOps]
        repeat (go_big_quiet_step (fail))
        refine wpQuiet_nil ?_
        refine wpAnyX_one 13 rfl (by kernel_rfl) (by kernel_rfl) ?_
        obtain ⟨y0, f0⟩ := KB9.out.at_ 0 (x := .slice none 0 0) rfl
        obtain ⟨y1, f1⟩ := KB9.out.at_ 1 (x := .slice none 0 0) rfl
        obtain ⟨y2, f2⟩ := KB9.out.at_ 2 (x := .slice none 0 0) rfl
        obtain ⟨y3, f3⟩ := KB9.out.at_ 3 (x := .slice none 0 0) rfl
        obtain ⟨y4, f4⟩ := KB9.out.at_ 4 (x := .int .i64 0) rfl
        have hkl := KB9.out.lt
        have htl := T9.out.size
        go_wp2_with fail
        refine ⟨⟨fun h => absurd (show true = false from h) (by decide), fun _ => trivial⟩, ?_⟩
        refine wpAnyX_done (by kernel_rfl) ?_
        clear y0 y1 y2 y3 y4 f0 f1 f2 f3 f4
        try dsimp only
        go_wp2_with fail
        go_meet
        exact ⟨D1, d1, D8, d8, D9, d9, _, rfl, ⟨(owns_set5 (owns_mono P9x0.out (by omega)) (fun e9 => by have := lt1.out _ e9; omega) _ _ _ _ _), (owns_set5 (owns_mono P9x1.out (by omega)) (fun e9 => by have := lt8.out _ e9; omega) _ _ _ _ _), (owns_set5 (owns_mono P9x2.out (by omega)) (fun e9 => by have := lt9.out _ e9; omega) _ _ _ _ _)⟩, ⟨(fun k hk e9 => by have := lt1.out k hk; have := lt8.out k e9; omega), (fun k hk e9 => by have := lt1.out k hk; have := lt9.out k e9; omega), (fun k hk e9 => by have := lt8.out k hk; have := lt9.out k e9; omega)⟩, ⟨(fun e9 => by have := lt1.out _ e9; omega), (fun e9 => by have := lt8.out _ e9; omega), (fun e9 => by have := lt9.out _ e9; omega)⟩, by omega, KB9.out.set5 _ _ _ _ _, below_set5 T9.out (by omega) _ _ _ _ _⟩
    · go_wp2_with fail
      obtain ⟨wa10, hw10⟩ : ∃ wA, wA = w0.alloc (.cells #[.slice none 0 0, .slice none 0 0, .slice none 0 0, .slice none 0 0, .int .i64 0] 31) := ⟨_, rfl⟩
      have T10 : Hid (Below W2.heap.size W2 wa10) := Lib.hid (by rw [hw10]; exact T0.out.alloc T0.out.size _)
      have KB10 : Hid (Bk wa10 w0.heap.size #[.slice none 0 0, .slice none 0 0, .slice none 0 0, .slice none 0 0, .int .i64 0] 31) := Lib.hid (by rw [hw10]; exact Bk.new _ _ _)
      have z10 : wa10.heap.size = w0.heap.size + 1 := by rw [hw10]; simp
      rw [← hw10]
      clear hw10
      refine ⟨⟨fun _ => ⟨⟨wa10, T10.out⟩, rfl⟩, fun _ => trivial⟩, ?_⟩
      refine wpAnyX_one 2 rfl (by kernel_rfl) (by kernel_rfl) ?_
      go_wp2_with fail
      refine (l01CopyT _ B.l _ (HR.out.below T10.out).l hsm.1.1).mono ?_
      rintro e wc11 ⟨v11, rfl, ho11, hb11⟩
      obtain ⟨D11, d11, rfl⟩ := owns_form' ho11
      have lt11 := Lib.hid ho11.lt
      have T11 := Lib.hid (T10.out.trans (hb11.mono T10.out.size))
      have z11 := hb11.size
      have P11x0 := Lib.hid ho11
      have KB11 := Lib.hid (KB10.out.below hb11 KB10.out.lt)
      clear ho11 hb11
      try dsimp only
      go_wp2_with fail
      refine ⟨⟨fun _ => ⟨⟨wc11, T11.out⟩, rfl⟩, fun _ => trivial⟩, ?_⟩
      refine wpAnyX_one 5 rfl (by kernel_rfl) (by kernel_rfl) ?_
      go_wp2_with fail
      refine (l01CopyT _ B.w _ (HR.out.below T11.out).q hsm.2.1).mono ?_
      rintro e wc12 ⟨v12, rfl, ho12, hb12⟩
      obtain ⟨D12, d12, rfl⟩ := owns_form' ho12
      have lt12 := Lib.hid ho12.lt
      have T12 := Lib.hid (T11.out.trans (hb12.mono T11.out.size))
      have z12 := hb12.size
      have P12x0 := Lib.hid (ownsRow_below P11x0.out hb12)
      have P12x1 := Lib.hid ho12
      have KB12 := Lib.hid (KB11.out.below hb12 KB11.out.lt)
      clear ho12 hb12
      try dsimp only
      go_wp2_with fail
      refine ⟨⟨fun _ => ⟨⟨wc12, T12.out⟩, rfl⟩, fun _ => trivial⟩, ?_⟩
      refine wpAnyX_one 8 rfl (by kernel_rfl) (by kernel_rfl) ?_
      go_wp2_with fail
      refine (l01CopyT _ B.f _ (HR.out.below T12.out).f hsm.2.2).mono ?_
      rintro e wc13 ⟨v13, rfl, ho13, hb13⟩
      obtain ⟨D13, d13, rfl⟩ := owns_form' ho13
      have lt13 := Lib.hid ho13.lt
      have T13 := Lib.hid (T12.out.trans (hb13.mono T12.out.size))
      have z13 := hb13.size
      have P13x0 := Lib.hid (ownsRow_below P12x0.out hb13)
      have P13x1 := Lib.hid (ownsRow_below P12x1.out hb13)
      have P13x2 := Lib.hid ho13
      have KB13 := Lib.hid (KB12.out.below hb13 KB12.out.lt)
      clear ho13 hb13
      try dsimp only
      go_wp2_with fail
      refine ⟨⟨fun _ => ⟨⟨wc13, T13.out⟩, rfl⟩, fun _ => trivial⟩, ?_⟩
      refine wpAnyX_pass (C := (fun _ => True)) none [false, false, false, false, false, false, false, false, false, false, false, true] rfl (by kernel_rfl) (fun _ _ t _ _ h => by cases t <;> exact h) ⟨fun _ => ⟨⟨wc13, T13.out⟩, rfl⟩, fun _ => trivial⟩ ?_
      simp only [keepOps]
      repeat (go_big_quiet_step (fail))
      refine wpQuiet_nil ?_
      refine wpAnyX_one 13 rfl (by kernel_rfl) (by kernel_rfl) ?_
      obtain ⟨y0, f0⟩ := KB13.out.at_ 0 (x := .slice none 0 0) rfl
      obtain ⟨y1, f1⟩ := KB13.out.at_ 1 (x := .slice none 0 0) rfl
      obtain ⟨y2, f2⟩ := KB13.out.at_ 2 (x := .slice none 0 0) rfl
      obtain ⟨y3, f3⟩ := KB13.out.at_ 3 (x := .slice none 0 0) rfl
      obtain ⟨y4, f4⟩ := KB13.out.at_ 4 (x := .int .i64 0) rfl
      have hkl := KB13.out.lt
      have htl := T13.out.size
      go_wp2_with fail
      refine ⟨⟨fun h => absurd (show true = false from h) (by decide), fun _ => trivial⟩, ?_⟩
      refine wpAnyX_done (by kernel_rfl) ?_
      clear y0 y1 y2 y3 y4 f0 f1 f2 f3 f4
      try dsimp only
      go_wp2_with fail
      go_meet
      exact ⟨D11, d11, D12, d12, D13, d13, _, rfl, ⟨(owns_set5 (owns_mono P13x0.out (by omega)) (fun e9 => by have := lt11.out _ e9; omega) _ _ _ _ _), (owns_set5 (owns_mono P13x1.out (by omega)) (fun e9 => by have := lt12.out _ e9; omega) _ _ _ _ _), (owns_set5 (owns_mono P13x2.out (by omega)) (fun e9 => by have := lt13.out _ e9; omega) _ _ _ _ _)⟩, ⟨(fun k hk e9 => by have := lt11.out k hk; have := lt12.out k e9; omega), (fun k hk e9 => by have := lt11.out k hk; have := lt13.out k e9; omega), (fun k hk e9 => by have := lt12.out k hk; have := lt13.out k e9; omega)⟩, ⟨(fun e9 => by have := lt11.out _ e9; omega), (fun e9 => by have := lt12.out _ e9; omega), (fun e9 => by have := lt13.out _ e9; omega)⟩, by omega, KB13.out.set5 _ _ _ _ _, below_set5 T13.out (by omega) _ _ _ _ _⟩
  case rest =>
    obtain ⟨D1, d1, D3, d3, D4, d4, g, rfl, ⟨o1, o3, o4⟩, ⟨ap1, ap2, ap3⟩, ⟨n1, n3, n4⟩, hg, kg, hbz⟩ := hcut
    have HAP := Lib.hid (And.intro ap1 (And.intro ap2 ap3))
    have HNG := Lib.hid (And.intro n1 (And.intro n3 n4))
    have HLT := Lib.hid (And.intro o1.lt (And.intro o3.lt o4.lt))
    have HOO := Lib.hid (And.intro o1 (And.intro o3 o4))
    clear ap1 ap2 ap3 n1 n3 n4
    obtain ⟨i, hi, hiz0, hiz1, hiz2⟩ := info_parts infoHold
    have kb := K0.out.below hbz l0
    have kr := KR.out.below hbz KR.out.lt
    have hgl := kg.lt
    have hz := HZ2.out
    clear o1 o3 o4
    have hBz := Lib.hid (HB.out.trans (hbz.mono HB.out.size))
    have HBZ := Lib.hid hbz
    have hss := hbz.size
    clear x0 x2 x3 x4 HS KN HN hbz
    go_wp2_with fail
    go_loopw [4] (fun iv wr => ∃ (k : Nat) (v : Value), k ≤ B.h.length ∧ iv = .int .i64 k ∧ wr.ownsRow wc.heap.size 92 2 v k (flc2 (B.h.take k)) ∧ Bk wr g #[.slice D1 B.l.length d1, v, .slice D3 B.w.length d3, .slice D4 B.f.length d4, .int .i64 B.n] 31 ∧ Only [g] wc wr) (fun iv _ => B.h.length - (intOf iv).toNat)
    case atStart => exact ⟨0, .slice none 0 0, Nat.zero_le _, rfl, ⟨rfl, .inl ⟨rfl, rfl⟩⟩, kg, Only.refl _ _⟩
    case round =>
      obtain ⟨k, v, hk, rfl, hO, kv, hon⟩ := hrel
      clear kg
      have kbw := kb.only hon (by simp; omega)
      obtain ⟨A, cc, he, -, -, -, hr⟩ := HR.out.h
      injection he with ee1 ee3 ee2
      subst ee1 ee2
      clear ee3
      obtain ⟨t1, -⟩ := kbw.at_ 1 (x := .slice A2 B.h.length c2) rfl
      obtain ⟨v5, c5, rfl⟩ := owns_form' hO
      obtain ⟨u0, f0⟩ := kv.at_ 0 (x := .slice D1 B.l.length d1) rfl
      obtain ⟨u1, f1⟩ := kv.at_ 1 (x := .slice v5 k c5) rfl
      obtain ⟨u2, f2⟩ := kv.at_ 2 (x := .slice D3 B.w.length d3) rfl
      obtain ⟨u3, f3⟩ := kv.at_ 3 (x := .slice D4 B.f.length d4) rfl
      obtain ⟨u4, f4⟩ := kv.at_ 4 (x := .int .i64 B.n) rfl
      have hgw := kv.lt
      have hsw := hon.size
      by_cases hlt : k < B.h.length
      · obtain ⟨b, o, rfl, hb, hcell⟩ := hr (by omega)
        obtain ⟨e, hek, hx0, hx1⟩ := p2_at (fun j u hu => (World.cell?_of_block (a := ⟨b, o + j, none⟩) (hon.block b (by omega) (by simp; omega))).trans ((HBZ.out.cell (p := ⟨b, o + j, none⟩) hb).trans (hcell j u hu))) hlt
        obtain ⟨ea, eb⟩ := e
        simp only at hx0 hx1
        have HF : Hid (flc2 (B.h.take k) ++ [.int .i64 ea, .int .i64 eb] = flc2 (B.h.take (k + 1))) := Lib.hid (flc2_snoc hek.out)
        have hbw : b < wr.heap.size := by omega
        have p1 := fun q : Past wr => Past.cell hgw u1 q
        have p2 := fun q : Past wr => Past.cell kbw.lt t1 q
        have p3 := fun q : Past wr => Past.cell hbw hx0 q
        have p4 := fun q : Past wr => Past.cell hbw hx1 q
        clear hcell hr hx0 hx1 u0 u1 u2 u3 u4 f0 f1 f2 f3 f4
        go_wp2_with fail
        clear t1
        refine wp_region_two 8 8 (fun w' => ∃ q : Past wr, w' = q.v) (fun _ => True) (by kernel_rfl) ?_
        obtain ⟨w0, hw0⟩ : ∃ w0, w0 = wr.drew := ⟨_, rfl⟩
        have T0 : Hid (Below wr.heap.size wr w0) := Lib.hid (by rw [hw0]; exact (Below.refl _ _).drew)
        rw [← hw0]
        clear hw0
        refine wpAnyX_pass (C := (fun w' => ∃ q : Past wr, w' = q.v)) (some false) [true, true, true, true, true, true, true] rfl (by kernel_rfl) (fun _ _ t _ _ h => by cases t <;> exact h) ⟨fun _ => ⟨⟨w0, T0.out⟩, rfl⟩, fun _ => trivial⟩ ?_
        simp only [keepOps]
        repeat (go_big_quiet_step (fail))
        refine wpQuiet_nil ?_
        clear p1 p2 p3 p4
        refine wpAnyX_one 7 rfl (by kernel_rfl) (by kernel_rfl) ?_
        go_wp2_with fail
        obtain ⟨wA, hwA⟩ : ∃ wA, wA = w0.alloc (.cells #[.int .i64 ea, .int .i64 eb] 92) := ⟨_, rfl⟩
        have TA : Hid (Below wr.heap.size wr wA) := Lib.hid (by rw [hwA]; exact T0.out.alloc T0.out.size _)
        have hOA := (ownsRow_below hO T0.out).alloc (.cells #[.int .i64 ea, .int .i64 eb] 92)
        have kvA := (kv.below T0.out kv.lt).alloc (.cells #[.int .i64 ea, .int .i64 eb] 92)
        have hNC := new_cells w0 [.int .i64 ea, .int .i64 eb] 92
        have hsA := TA.out.size
        have hs0 : w0.heap.size < wA.heap.size := by rw [hwA]; simp
        rw [show ([.int .i64 ea, .int .i64 eb] : List Value).toArray = #[.int .i64 ea, .int .i64 eb] from rfl, ← hwA] at hNC
        rw [← hwA] at hOA kvA
        rw [← hwA]
        clear hwA
        refine ⟨⟨fun _ => ⟨⟨wA, TA.out⟩, rfl⟩, fun _ => trivial⟩, ?_⟩
        refine wpAnyX_one 8 rfl (by kernel_rfl) (by kernel_rfl) ?_
        refine wpList_append_own _ rfl _ _ 29 rfl wc.heap.size 92 i (.agg #[.int .i64 0, .int .i64 0]) 2 16 Try.underlying29 hi hiz0 hiz1 hiz2 rfl (by decide) _ _ _ rfl hOA ⟨w0.heap.size, 0, none⟩ 1 1 [.int .i64 ea, .int .i64 eb] rfl rfl hNC (by simp [Value.oneCell']) (by unfold maxLen; omega) (by omega) (by omega) ?_
        intro v9 w9 hO9 hg9 _
        obtain ⟨A9, c9, rfl⟩ := owns_form' hO9
        have k9 := kvA.grown hg9 (fun j hj => by have := (hOA.lt j hj).1; omega)
        have hb9 : Below wc.heap.size wr w9 := (TA.out.mono hsw).grown hg9 (by omega) (fun j hj => by have := (hOA.lt j hj).1; omega)
        obtain ⟨y1, x1⟩ := k9.at_ 1 (x := .slice v5 k c5) rfl
        rw [HF.out] at hO9
        have HFIN := Lib.hid (And.intro hO9 (And.intro k9 (hon.then_below hb9)))
        clear hO9 k9 hb9 hg9 hOA kvA hNC hO kv hon
        go_wp2_with fail
        refine ⟨⟨fun h => absurd (show true = false from h) (by decide), fun _ => trivial⟩, ?_⟩
        refine wpAnyX_pass (C := (fun _ => True)) none [false, false, false, false, false, false, false, false, false, true] rfl (by kernel_rfl) (fun _ _ t _ _ h => by cases t <;> exact h) ⟨fun h => absurd (show true = false from h) (by decide), fun _ => trivial⟩ ?_
        simp only [keepOps]
        repeat (go_big_quiet_step (fail))
        refine wpQuiet_nil ?_
        refine wpAnyX_one 10 rfl (by kernel_rfl) (by kernel_rfl) ?_
        go_wp2_with fail
        refine ⟨⟨fun h => absurd (show true = false from h) (by decide), fun _ => trivial⟩, ?_⟩
        refine wpAnyX_done (by kernel_rfl) ?_
        try dsimp only
        go_wp2_with fail
        obtain ⟨hO9, k9, hon9⟩ := HFIN.out
        exact ⟨⟨k + 1, _, by omega, by go_num, owns_far' hO9 hgl _, k9.set_ 1 _, hon9.trans (Only.setCell _ _)⟩, by simp [intOf]; omega⟩
      · obtain rfl : k = B.h.length := by omega
        obtain ⟨r0, s0⟩ := (kr.only hon (by simp; omega)).at_ 0 (x := .slice none 0 0) rfl
        obtain ⟨r1, s1⟩ := (kr.only hon (by simp; omega)).at_ 1 (x := .slice none 0 0) rfl
        obtain ⟨r2, s2⟩ := (kr.only hon (by simp; omega)).at_ 2 (x := .slice none 0 0) rfl
        obtain ⟨r3, s3⟩ := (kr.only hon (by simp; omega)).at_ 3 (x := .slice none 0 0) rfl
        obtain ⟨r4, s4⟩ := (kr.only hon (by simp; omega)).at_ 4 (x := .int .i64 0) rfl
        have qF := (kr.only hon (by simp; omega)).set5 (.slice D1 B.l.length d1) (.slice v5 B.h.length c5) (.slice D3 B.w.length d3) (.slice D4 B.f.length d4) (.int .i64 B.n)
        obtain ⟨zz0, -⟩ := qF.at_ 0 (x := .slice D1 B.l.length d1) rfl
        obtain ⟨zz1, -⟩ := qF.at_ 1 (x := .slice v5 B.h.length c5) rfl
        obtain ⟨zz2, -⟩ := qF.at_ 2 (x := .slice D3 B.w.length d3) rfl
        obtain ⟨zz3, -⟩ := qF.at_ 3 (x := .slice D4 B.f.length d4) rfl
        obtain ⟨zz4, -⟩ := qF.at_ 4 (x := .int .i64 B.n) rfl
        have hO2 := Lib.hid hO
        have hBf := Lib.hid (hBz.out.trans (hon.below (B := w.heap.size) (by have := hBz.out.size; omega) (by simp; omega)))
        have HON := Lib.hid hon
        have hsz9 := Lib.hid (And.intro hz (And.intro hss (And.intro hgl hsw)))
        clear hO kv kb kr hr hlt hk kbw hon qF hz hss hgl hsw hgw
        go_wp2_with fail
        obtain ⟨hz, hss, hgl, hsw⟩ := hsz9.out
        obtain ⟨o1, o3, o4⟩ := HOO.out
        obtain ⟨n1, n3, n4⟩ := HNG.out
        obtain ⟨ap1, ap2, ap3⟩ := HAP.out
        obtain ⟨t1, t3, t4⟩ := HLT.out
        have hO := hO2.out
        rw [List.take_length] at hO
        have tO := hO.lt
        have o1' := owns_ne o1 n1 HON.out
        have o3' := owns_ne o3 n3 HON.out
        have o4' := owns_ne o4 n4 HON.out
        refine bodyPost_ret (v := .agg #[.slice D1 B.l.length d1, .slice v5 B.h.length c5, .slice D3 B.w.length d3, .slice D4 B.f.length d4, .int .i64 B.n]) (by simp [results, Try.results49, go_sem, zz0, zz1, zz2, zz3, zz4]) rfl ⟨_, _, _, _, rfl,
          ⟨owns_set5 (owns_mono o1' (by omega)) (fun e9 => by have := t1 _ e9; omega) _ _ _ _ _, owns_set5 (owns_mono hO (by omega)) (fun e9 => by have := tO _ e9; omega) _ _ _ _ _, owns_set5 (owns_mono o3' (by omega)) (fun e9 => by have := t3 _ e9; omega) _ _ _ _ _, owns_set5 (owns_mono o4' (by omega)) (fun e9 => by have := t4 _ e9; omega) _ _ _ _ _,
            fun k hk e9 => by have := t1 k hk; have := tO k e9; omega, ap1, ap2, fun k hk e9 => by have := tO k hk; have := t3 k e9; omega, fun k hk e9 => by have := tO k hk; have := t4 k e9; omega, ap3⟩, below_set5 hBf.out (Nat.le_succ _) _ _ _ _ _⟩
end Go.Proofs.Ytiamkgkhamnaeaa
