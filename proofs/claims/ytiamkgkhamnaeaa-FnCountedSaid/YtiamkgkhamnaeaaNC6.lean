/- Contract of StepCount of package spec. Conditions: the bench's rows can be read; lengths that a law bounds. -/
import Derived.Test.YtiamkgkhamnaeaaNC5
namespace Go.Proofs.Ytiamkgkhamnaeaa
set_option maxRecDepth 20000
set_option linter.unusedSimpArgs false
set_option linter.unusedVariables false
open Go.ChangeShapes Go.WideShapes Go.ChangeAt Go.RowKit
set_option linter.unusedVariables false
theorem freeBn_cnt (B : Bn) (l : List Int) : cntBn (freeBn B l) ≤ cntBn B := free_cnt B l
theorem stepBn_cnt (B : Bn) (o : O3) : cntBn (stepBn B o) ≤ cntBn B + 2 := by
  have hm : cntBn (makeBn B) ≤ cntBn B + 1 := by unfold makeBn cntBn; split <;> simp <;> omega
  have ht : cntBn (takeBn B o.t o.x) ≤ cntBn B + 2 := by unfold takeBn cntBn; split <;> simp <;> omega
  have hd : cntBn (dropBn B o.t o.x) ≤ cntBn B := by have := List.length_filter_le (fun e : P2 => !decide (e = ⟨o.t, o.x⟩)) B.h; unfold dropBn cntBn; split <;> simp <;> omega
  have hc : cntBn (cutBn B o.x) ≤ cntBn B + 1 := by have := lessF_len B.l o.x; unfold cutBn cntBn; split <;> simp <;> omega
  have hr : ∀ A : Bn, cntBn (relBn A o.x) ≤ cntBn A := fun A => by
    unfold relBn
    split
    · exact free_cnt A _
    · exact Nat.le_refl _
  have h1 := hr (dropBn B o.t o.x)
  have h2 := hr (cutBn B o.x)
  unfold stepBn
  split
  · omega
  split
  · omega
  split
  · omega
  split
  · split <;> omega
  split
  · split <;> omega
  · omega
theorem spec_Worker (t : Int) (w : World) : Calls Try.prog 55 #[.int .i64 t] w fun e w' => e = .returned (.bool (inB t 0 4)) ∧ w = w' := by
  go_enter Try.func55, Try.ntmps55
  go_wp2_with (go_at_call 66; refine (l01In _ _ _ _).mono ?_; rintro e w1 ⟨rfl, rfl⟩)
  go_ret
  exact ⟨rfl, rfl⟩
theorem Bk.opc {w : World} {g : Nat} {t : TypeId} {a b c : Value} (h : Bk w g #[a, b, c] t) : w.cell? ⟨g, 0, none⟩ = some a ∧ w.cell? ⟨g, 1, none⟩ = some b ∧ w.cell? ⟨g, 2, none⟩ = some c := ⟨(h.at_ 0 rfl).1, (h.at_ 1 rfl).1, (h.at_ 2 rfl).1⟩
set_option maxHeartbeats 6400000 in
theorem spec_StepCount (a b c d : Value) (B : Bn) (o : O3) (w : World) (r : RdBn w a b c d B) (hsz : szBn B ≤ 16777215) :
    Calls Try.prog 10 #[.agg #[a, b, c, d, .int .i64 B.n], .agg #[.int .i64 o.k, .int .i64 o.t, .int .i64 o.x]] w (RetBnV (stepBn B o) (.int .i64 (stepR B o)) w) := by
  obtain ⟨k, t, x⟩ := o
  obtain ⟨A1, c1, A2, c2, A3, c3, A4, c4, ⟨rfl, rfl, rfl, rfl⟩, -, -⟩ := r.slices
  obtain ⟨W0, hW0⟩ : ∃ W0, W0 = ((w.alloc (.cells #[.slice A1 B.l.length c1, .slice A2 B.h.length c2, .slice A3 B.w.length c3, .slice A4 B.f.length c4, .int .i64 B.n] 31)).alloc (.cells #[.int .i64 k, .int .i64 t, .int .i64 x] 35)).alloc (.cells #[.slice none 0 0, .slice none 0 0, .slice none 0 0, .slice none 0 0, .int .i64 0] 31) := ⟨_, rfl⟩
  have hB0 := (((Below.refl w.heap.size w).alloc (Nat.le_refl _) (.cells #[.slice A1 B.l.length c1, .slice A2 B.h.length c2, .slice A3 B.w.length c3, .slice A4 B.f.length c4, .int .i64 B.n] 31)).alloc (by simp) (.cells #[.int .i64 k, .int .i64 t, .int .i64 x] 35)).alloc (by simp; omega) (.cells #[.slice none 0 0, .slice none 0 0, .slice none 0 0, .slice none 0 0, .int .i64 0] 31)
  have k0 := ((Bk.new w #[.slice A1 B.l.length c1, .slice A2 B.h.length c2, .slice A3 B.w.length c3, .slice A4 B.f.length c4, .int .i64 B.n] 31).alloc (.cells #[.int .i64 k, .int .i64 t, .int .i64 x] 35)).alloc (.cells #[.slice none 0 0, .slice none 0 0, .slice none 0 0, .slice none 0 0, .int .i64 0] 31)
  have o0 := (Bk.new (w.alloc (.cells #[.slice A1 B.l.length c1, .slice A2 B.h.length c2, .slice A3 B.w.length c3, .slice A4 B.f.length c4, .int .i64 B.n] 31)) #[.int .i64 k, .int .i64 t, .int .i64 x] 35).alloc (.cells #[.slice none 0 0, .slice none 0 0, .slice none 0 0, .slice none 0 0, .int .i64 0] 31)
  have r0 := Bk.new ((w.alloc (.cells #[.slice A1 B.l.length c1, .slice A2 B.h.length c2, .slice A3 B.w.length c3, .slice A4 B.f.length c4, .int .i64 B.n] 31)).alloc (.cells #[.int .i64 k, .int .i64 t, .int .i64 x] 35)) #[.slice none 0 0, .slice none 0 0, .slice none 0 0, .slice none 0 0, .int .i64 0] 31
  simp only [World.size_alloc] at o0 r0
  rw [← hW0] at hB0 k0 o0 r0
  have hz0 : w.heap.size + 3 ≤ W0.heap.size := by rw [hW0]; simp
  have hrd := r.below hB0
  have HCP := Lib.hid (l09CopyT _ _ _ _ B W0 hrd (by omega))
  have HW0 := Lib.hid hW0
  obtain ⟨⟨e0, e1, e2, e3, e4⟩, -⟩ := five k0
  clear hW0
  show Calls Try.prog 10 #[.agg #[.slice A1 B.l.length c1, .slice A2 B.h.length c2, .slice A3 B.w.length c3, .slice A4 B.f.length c4, .int .i64 B.n], .agg #[.int .i64 k, .int .i64 t, .int .i64 x]] w (RetBnV (stepBn B ⟨k, t, x⟩) (.int .i64 (stepR B ⟨k, t, x⟩)) w)
  go_enter Try.func10, Try.ntmps10
  go_upto_region 2 with (go_at_call 49; rw [← HW0.out]; refine HCP.out.mono ?_; rintro e w1 ⟨u1, u2, u3, u4, rfl, hO1, hb1⟩; obtain ⟨S1, s1, rfl⟩ := owns_form' hO1.l; obtain ⟨S2, s2, rfl⟩ := owns_form' hO1.h; obtain ⟨S3, s3, rfl⟩ := owns_form' hO1.q; obtain ⟨S4, s4, rfl⟩ := owns_form' hO1.f)
  obtain ⟨bs, hOn, hbs⟩ := hO1.own
  have hlt1 := hOn.lt
  have hs1 := hb1.size
  have hbA := hb1.alloc hb1.size (.cells #[.slice S1 B.l.length s1, .slice S2 B.h.length s2, .slice S3 B.w.length s3, .slice S4 B.f.length s4, .int .i64 B.n] 31)
  have k1 := k0.below hbA k0.lt
  have o1 := o0.below hbA o0.lt
  have r1 := r0.below hbA r0.lt
  have q1 := Bk.new w1 #[.slice S1 B.l.length s1, .slice S2 B.h.length s2, .slice S3 B.w.length s3, .slice S4 B.f.length s4, .int .i64 B.n] 31
  have hO2 := hOn.below ((Below.refl _ _).alloc (Nat.le_refl _) (.cells #[.slice S1 B.l.length s1, .slice S2 B.h.length s2, .slice S3 B.w.length s3, .slice S4 B.f.length s4, .int .i64 B.n] 31))
  have hrd1 := hrd.below hbA
  have hB1 := hB0.trans (hbA.mono hB0.size)
  obtain ⟨W1, hW1⟩ : ∃ W1, W1 = w1.alloc (.cells #[.slice S1 B.l.length s1, .slice S2 B.h.length s2, .slice S3 B.w.length s3, .slice S4 B.f.length s4, .int .i64 B.n] 31) := ⟨_, rfl⟩
  have hz1 : w1.heap.size < W1.heap.size := by rw [hW1]; simp
  rw [← hW1] at k1 o1 r1 q1 hO2 hrd1 hB1
  rw [← hW1]
  have HBO := Lib.hid (spec_BenchOk _ _ _ _ B W1 hrd1 (by omega))
  clear hW1 hbA e0 e1 e2 e3 e4 hO1 hOn hb1
  obtain ⟨⟨e0, e1, e2, e3, e4⟩, -⟩ := five k1
  cases hok : bnOk B
  · have HST : Hid (B = stepBn B ⟨k, t, x⟩ ∧ -1 = stepR B ⟨k, t, x⟩) := Lib.hid (by simp [stepBn, stepR, hok])
    rw [hok] at HBO
    clear hok
    go_wp2_with (go_at_call 35; refine HBO.out.mono ?_; rintro e w3 ⟨rfl, hb3⟩; have r3 := r1.below hb3 r1.lt; have q3 := q1.below hb3 q1.lt; have hO3 := hO2.below hb3; have hB3 := hB1.trans (hb3.mono hB1.size); obtain ⟨⟨f0, f1, f2, f3, f4⟩, -⟩ := five q3; obtain ⟨⟨h0, h1, h2, h3, h4⟩, g0, g1, g2, g3, g4⟩ := five r3)
    have qF := r3.set5 (.slice S1 B.l.length s1) (.slice S2 B.h.length s2) (.slice S3 B.w.length s3) (.slice S4 B.f.length s4) (.int .i64 B.n)
    obtain ⟨⟨zz0, zz1, zz2, zz3, zz4⟩, -⟩ := five qF
    refine bodyPost_ret (v := .tuple #[.agg #[.slice S1 B.l.length s1, .slice S2 B.h.length s2, .slice S3 B.w.length s3, .slice S4 B.f.length s4, .int .i64 B.n], .int .i64 (-1)]) (by simp [results, Try.results10, go_sem, zz0, zz1, zz2, zz3, zz4]) rfl ?_
    rw [← HST.out.1, ← HST.out.2]
    exact (hO3.only (only_set5 _ (w.heap.size + 1 + 1) _ _ _ _ _) (fun y hy hm => by have := hbs y hy; have := List.mem_singleton.1 hm; omega)).retV (fun y hy => by have := hbs y hy; omega) (below_set5 hB3 (by omega) _ _ _ _ _)
  have HOK := Lib.hid hok
  rw [hok] at HBO
  clear hok
  go_upto_region 4 with (go_at_call 35; refine HBO.out.mono ?_; rintro e w3 ⟨rfl, hb3⟩; have k3 := k1.below hb3 k1.lt; have o3 := o1.below hb3 o1.lt; have r3 := r1.below hb3 r1.lt; have q3 := q1.below hb3 q1.lt; have hO3 := hO2.below hb3; have hrd3 := hrd1.below hb3; have hB3 := hB1.trans (hb3.mono hB1.size))
  have hs3 := hb3.size
  clear HBO k1 o1 r1 q1 hO2 hrd1 hB1 e0 e1 e2 e3 e4 hb3 hrd
  obtain ⟨m0, m1, m2⟩ := o3.opc
  obtain ⟨⟨e0, e1, e2, e3, e4⟩, -⟩ := five k3
  obtain ⟨⟨f0, f1, f2, f3, f4⟩, -⟩ := five q3
  obtain ⟨⟨h0, h1, h2, h3, h4⟩, g0, g1, g2, g3, g4⟩ := five r3
  have hok' := HOK.out
  have hsk := ok_sz hok'
  by_cases hk0 : k = 0
  · subst hk0
    have HST := Lib.hid (step_0 hok' t x)
    clear hok'
    go_wp2_with (go_at_call 50; refine (spec_MakeObj _ _ _ _ B _ hrd3 trivial (by omega)).mono ?_; rintro e w4 ⟨u1, u2, u3, u4, bs4, rfl, hO4, hb4, hl4⟩; obtain ⟨D1, d1, D2, d2, D3, d3, D4, d4, rfl, rfl, rfl, rfl⟩ := hO4.formV; have r4 := r3.below hl4 r3.lt; obtain ⟨⟨i0, i1, i2, i3, i4⟩, j0, j1, j2, j3, j4⟩ := five r4)
    have hB4 := hB3.trans (hl4.mono hB3.size)
    have qF := r4.set5 (.slice D1 (makeBn B).l.length d1) (.slice D2 (makeBn B).h.length d2) (.slice D3 (makeBn B).w.length d3) (.slice D4 (makeBn B).f.length d4) (.int .i64 (makeBn B).n)
    obtain ⟨⟨zz0, zz1, zz2, zz3, zz4⟩, -⟩ := five qF
    refine bodyPost_ret (v := .tuple #[.agg #[.slice D1 (makeBn B).l.length d1, .slice D2 (makeBn B).h.length d2, .slice D3 (makeBn B).w.length d3, .slice D4 (makeBn B).f.length d4, .int .i64 (makeBn B).n], .int .i64 (makeR B)]) (by simp [results, Try.results10, go_sem, zz0, zz1, zz2, zz3, zz4]) rfl ?_
    rw [← HST.out.1, ← HST.out.2]
    exact (hO4.only (only_set5 w4 (w.heap.size + 1 + 1) (.slice D1 (makeBn B).l.length d1) (.slice D2 (makeBn B).h.length d2) (.slice D3 (makeBn B).w.length d3) (.slice D4 (makeBn B).f.length d4) (.int .i64 (makeBn B).n)) (fun y hy hm => by have := hb4 y hy; have := List.mem_singleton.1 hm; omega)).retV (fun y hy => by have := hb4 y hy; omega) (below_set5 hB4 (by omega) _ _ _ _ _)
  by_cases hk1 : k = 1
  · subst hk1
    rcases (Bool.eq_false_or_eq_true (takeOk B t x)).symm with hm | hm
    · have HST : Hid (B = stepBn B ⟨1, t, x⟩ ∧ -1 = stepR B ⟨1, t, x⟩) := Lib.hid (by simp [stepBn, stepR, hok', hm, takeBn])
      have hCC := spec_TakeHold _ _ _ _ B t x _ hrd3 (by omega)
      rw [hm] at hCC
      have HCC := Lib.hid hCC
      clear hok' hm hCC
      go_wp2_with (go_at_call 40; refine HCC.out.mono ?_; rintro e w4 ⟨u1, u2, u3, u4, bs4, rfl, hO4', hb4, hl4⟩; obtain ⟨D1, d1, D2, d2, D3, d3, D4, d4, rfl, rfl, rfl, rfl⟩ := hO4'.formV; have r4' := r3.below hl4 r3.lt; have hO4a := hO3.below hl4; obtain ⟨⟨i0, i1, i2, i3, i4⟩, j0, j1, j2, j3, j4⟩ := five r4'; have q4 := q3.below hl4 q3.lt; obtain ⟨⟨l0, l1, l2, l3, l4⟩, -⟩ := five q4; have hq4 := q4.lt; have hr4 := r4'.lt)
      have hO4 := (hO4a.only (only_set5 _ (w.heap.size + 1 + 1) (.slice S1 B.l.length s1) (.slice S2 B.h.length s2) (.slice S3 B.w.length s3) (.slice S4 B.f.length s4) (.int .i64 B.n)) (fun y hy hm => by have := hbs y hy; have := List.mem_singleton.1 hm; omega)).below ((Below.refl _ _).alloc (Nat.le_refl _) (.cells #[.slice D1 (takeBn B t x).l.length d1, .slice D2 (takeBn B t x).h.length d2, .slice D3 (takeBn B t x).w.length d3, .slice D4 (takeBn B t x).f.length d4, .int .i64 (takeBn B t x).n] 31))
      have hB4 := hB3.trans (hl4.mono hB3.size)
      have qF := (r4'.set5 (.slice S1 B.l.length s1) (.slice S2 B.h.length s2) (.slice S3 B.w.length s3) (.slice S4 B.f.length s4) (.int .i64 B.n)).alloc (.cells #[.slice D1 (takeBn B t x).l.length d1, .slice D2 (takeBn B t x).h.length d2, .slice D3 (takeBn B t x).w.length d3, .slice D4 (takeBn B t x).f.length d4, .int .i64 (takeBn B t x).n] 31)
      obtain ⟨⟨zz0, zz1, zz2, zz3, zz4⟩, -⟩ := five qF
      refine bodyPost_ret (v := .tuple #[.agg #[.slice S1 B.l.length s1, .slice S2 B.h.length s2, .slice S3 B.w.length s3, .slice S4 B.f.length s4, .int .i64 B.n], .int .i64 (-1)]) (by simp [results, Try.results10, go_sem, zz0, zz1, zz2, zz3, zz4]) rfl ?_
      rw [← HST.out.1, ← HST.out.2]
      exact hO4.retV (fun y hy => by have := hbs y hy; omega) ((below_set5 hB4 (by omega) _ _ _ _ _).alloc (below_set5 hB4 (by omega) _ _ _ _ _).size _)
    · have HST : Hid (takeBn B t x = stepBn B ⟨1, t, x⟩ ∧ (holdN (takeBn B t x) x : Int) = stepR B ⟨1, t, x⟩) := Lib.hid (by simp [stepBn, stepR, hok', hm])
      have hCC := spec_TakeHold _ _ _ _ B t x _ hrd3 (by omega)
      rw [hm] at hCC
      have HCC := Lib.hid hCC
      have hTK := take_ok (t := t) (x := x) hok'
      have hhl : (holdersF (takeBn B t x) x).length = holdN (takeBn B t x) x := by unfold holdersF; rw [hTK, ← ofF_hold]; rfl
      have HHL := Lib.hid hhl
      have hTS := ok_sz hTK
      clear hok' hm hCC hhl hTK
      go_upto_region 11 with (go_at_call 40; refine HCC.out.mono ?_; rintro e w4 ⟨u1, u2, u3, u4, bs4, rfl, hO4', hb4, hl4⟩; obtain ⟨D1, d1, D2, d2, D3, d3, D4, d4, rfl, rfl, rfl, rfl⟩ := hO4'.formV)
      have hs4 := hl4.size
      have hbA := hl4.alloc hl4.size (.cells #[.slice D1 (takeBn B t x).l.length d1, .slice D2 (takeBn B t x).h.length d2, .slice D3 (takeBn B t x).w.length d3, .slice D4 (takeBn B t x).f.length d4, .int .i64 (takeBn B t x).n] 31)
      have o5 := o3.below hbA o3.lt
      have r5 := r3.below hbA r3.lt
      have q5 := Bk.new w4 #[.slice D1 (takeBn B t x).l.length d1, .slice D2 (takeBn B t x).h.length d2, .slice D3 (takeBn B t x).w.length d3, .slice D4 (takeBn B t x).f.length d4, .int .i64 (takeBn B t x).n] 31
      have hO5 := hO4'.below ((Below.refl _ _).alloc (Nat.le_refl _) (.cells #[.slice D1 (takeBn B t x).l.length d1, .slice D2 (takeBn B t x).h.length d2, .slice D3 (takeBn B t x).w.length d3, .slice D4 (takeBn B t x).f.length d4, .int .i64 (takeBn B t x).n] 31))
      have hB5 := hB3.trans (hbA.mono hB3.size)
      have hlt4 := hO4'.lt
      obtain ⟨W5, hW5⟩ : ∃ W5, W5 = w4.alloc (.cells #[.slice D1 (takeBn B t x).l.length d1, .slice D2 (takeBn B t x).h.length d2, .slice D3 (takeBn B t x).w.length d3, .slice D4 (takeBn B t x).f.length d4, .int .i64 (takeBn B t x).n] 31) := ⟨_, rfl⟩
      have hz5 : w4.heap.size < W5.heap.size := by rw [hW5]; simp
      rw [← hW5] at o5 r5 q5 hO5 hB5
      rw [← hW5]
      clear hW5 hbA e0 e1 e2 e3 e4 f0 f1 f2 f3 f4 h0 h1 h2 h3 h4 g0 g1 g2 g3 g4 m0 m1 m2 hl4 hO4' q3 r3 o3 k3
      have hq5 := q5.lt
      have ho5 := o5.lt
      have P0 := fun q : PastO [w.heap.size + 1 + 1] W5 => PastO.cell hq5 (by simp; omega) (q5.at_ 0 (x := .slice D1 (takeBn B t x).l.length d1) rfl).1 q
      have P1 := fun q : PastO [w.heap.size + 1 + 1] W5 => PastO.cell hq5 (by simp; omega) (q5.at_ 1 (x := .slice D2 (takeBn B t x).h.length d2) rfl).1 q
      have P2 := fun q : PastO [w.heap.size + 1 + 1] W5 => PastO.cell hq5 (by simp; omega) (q5.at_ 2 (x := .slice D3 (takeBn B t x).w.length d3) rfl).1 q
      have P3 := fun q : PastO [w.heap.size + 1 + 1] W5 => PastO.cell hq5 (by simp; omega) (q5.at_ 3 (x := .slice D4 (takeBn B t x).f.length d4) rfl).1 q
      have P4 := fun q : PastO [w.heap.size + 1 + 1] W5 => PastO.cell hq5 (by simp; omega) (q5.at_ 4 (x := .int .i64 (takeBn B t x).n) rfl).1 q
      have P5 := fun q : PastO [w.heap.size + 1 + 1] W5 => PastO.cell ho5 (by simp) (o5.at_ 2 (x := .int .i64 x) rfl).1 q
      refine wp_region_two 7 7 (fun w' => ∃ q : PastO [w.heap.size + 1 + 1] W5, w' = q.v) (fun _ => True) (by kernel_rfl) ?_
      obtain ⟨w0, hw0⟩ : ∃ w0, w0 = W5.drew := ⟨_, rfl⟩
      have T0 : Hid (Below W5.heap.size W5 w0) := Lib.hid (by rw [hw0]; exact (Below.refl _ _).drew)
      rw [← hw0]
      clear hw0
      refine wpAnyX_pass (C := (fun w' => ∃ q : PastO [w.heap.size + 1 + 1] W5, w' = q.v)) (some false) [true, true, true, true] rfl (by kernel_rfl) (fun _ _ t _ _ h => by cases t <;> exact h) ⟨fun _ => ⟨⟨w0, Only.of_below T0.out _⟩, rfl⟩, fun _ => trivial⟩ ?_
      simp only [keepOps]
      repeat (go_big_quiet_step (fail))
      refine wpQuiet_nil ?_
      clear P0 P1 P2 P3 P4 P5
      refine wpAnyX_one 4 rfl (by kernel_rfl) (by kernel_rfl) ?_
      go_wp2_with (go_at_call 51; refine (spec_HoldersOf _ _ _ _ (takeBn B t x) x _ (hO5.rd.below T0.out) (by omega)).mono ?_; rintro e w6 ⟨v6, bs6, rfl, ho6, -, hb6⟩; rw [HHL.out] at ho6; obtain ⟨V6, d6, rfl, -, -⟩ := ho6.slice)
      have T6 := T0.out.trans (hb6.mono T0.out.size)
      refine ⟨⟨fun _ => ⟨⟨w6, Only.of_below T6 _⟩, rfl⟩, fun _ => trivial⟩, ?_⟩
      have r6 := r5.below T6 r5.lt
      have hO6 := hO5.below T6
      have hB6 := hB5.trans (T6.mono hB5.size)
      obtain ⟨⟨h0, h1, h2, h3, h4⟩, g0, g1, g2, g3, g4⟩ := five r6
      refine wpAnyX_two 5 6 rfl rfl (by kernel_rfl) (by kernel_rfl) ?_ ?_
      · go_wp2_with fail
        refine ⟨⟨fun _ => ⟨⟨w6, Only.of_below T6 _⟩, rfl⟩, fun _ => trivial⟩, ?_⟩
        refine wpAnyX_one 6 rfl (by kernel_rfl) (by kernel_rfl) ?_
        go_wp2_with fail
        refine ⟨⟨fun _ => ⟨⟨_, (Only.of_below T6 _).trans (only_set5 w6 (w.heap.size + 1 + 1) (.slice D1 (takeBn B t x).l.length d1) (.slice D2 (takeBn B t x).h.length d2) (.slice D3 (takeBn B t x).w.length d3) (.slice D4 (takeBn B t x).f.length d4) (.int .i64 (takeBn B t x).n))⟩, rfl⟩, fun _ => trivial⟩, ?_⟩
        refine wpAnyX_one 7 rfl (by kernel_rfl) (by kernel_rfl) ?_
        go_wp2_with fail
        refine ⟨⟨fun h => absurd (show true = false from h) (by decide), fun _ => trivial⟩, ?_⟩
        refine wpAnyX_done (by kernel_rfl) ?_
        try dsimp only
        go_wp2_with fail
        have qF := r6.set5 (.slice D1 (takeBn B t x).l.length d1) (.slice D2 (takeBn B t x).h.length d2) (.slice D3 (takeBn B t x).w.length d3) (.slice D4 (takeBn B t x).f.length d4) (.int .i64 (takeBn B t x).n)
        obtain ⟨⟨zz0, zz1, zz2, zz3, zz4⟩, -⟩ := five qF
        refine bodyPost_ret (v := .tuple #[.agg #[.slice D1 (takeBn B t x).l.length d1, .slice D2 (takeBn B t x).h.length d2, .slice D3 (takeBn B t x).w.length d3, .slice D4 (takeBn B t x).f.length d4, .int .i64 (takeBn B t x).n], .int .i64 (holdN (takeBn B t x) x)]) (by simp [results, Try.results10, go_sem, zz0, zz1, zz2, zz3, zz4]) rfl ?_
        rw [← HST.out.1, ← HST.out.2]
        exact (hO6.only (only_set5 w6 (w.heap.size + 1 + 1) (.slice D1 (takeBn B t x).l.length d1) (.slice D2 (takeBn B t x).h.length d2) (.slice D3 (takeBn B t x).w.length d3) (.slice D4 (takeBn B t x).f.length d4) (.int .i64 (takeBn B t x).n)) (fun y hy hm => by have := hb4 y hy; have := List.mem_singleton.1 hm; omega)).retV (fun y hy => by have := hb4 y hy; omega) (below_set5 hB6 (by omega) _ _ _ _ _)
      · go_wp2_with fail
        refine ⟨⟨fun _ => ⟨⟨_, (Only.of_below T6 _).trans (only_set5 w6 (w.heap.size + 1 + 1) (.slice D1 (takeBn B t x).l.length d1) (.slice D2 (takeBn B t x).h.length d2) (.slice D3 (takeBn B t x).w.length d3) (.slice D4 (takeBn B t x).f.length d4) (.int .i64 (takeBn B t x).n))⟩, rfl⟩, fun _ => trivial⟩, ?_⟩
        refine wpAnyX_one 5 rfl (by kernel_rfl) (by kernel_rfl) ?_
        go_wp2_with fail
        refine ⟨⟨fun _ => ⟨⟨_, (Only.of_below T6 _).trans (only_set5 w6 (w.heap.size + 1 + 1) (.slice D1 (takeBn B t x).l.length d1) (.slice D2 (takeBn B t x).h.length d2) (.slice D3 (takeBn B t x).w.length d3) (.slice D4 (takeBn B t x).f.length d4) (.int .i64 (takeBn B t x).n))⟩, rfl⟩, fun _ => trivial⟩, ?_⟩
        refine wpAnyX_one 7 rfl (by kernel_rfl) (by kernel_rfl) ?_
        go_wp2_with fail
        refine ⟨⟨fun h => absurd (show true = false from h) (by decide), fun _ => trivial⟩, ?_⟩
        refine wpAnyX_done (by kernel_rfl) ?_
        try dsimp only
        go_wp2_with fail
        have qF := r6.set5 (.slice D1 (takeBn B t x).l.length d1) (.slice D2 (takeBn B t x).h.length d2) (.slice D3 (takeBn B t x).w.length d3) (.slice D4 (takeBn B t x).f.length d4) (.int .i64 (takeBn B t x).n)
        obtain ⟨⟨zz0, zz1, zz2, zz3, zz4⟩, -⟩ := five qF
        refine bodyPost_ret (v := .tuple #[.agg #[.slice D1 (takeBn B t x).l.length d1, .slice D2 (takeBn B t x).h.length d2, .slice D3 (takeBn B t x).w.length d3, .slice D4 (takeBn B t x).f.length d4, .int .i64 (takeBn B t x).n], .int .i64 (holdN (takeBn B t x) x)]) (by simp [results, Try.results10, go_sem, zz0, zz1, zz2, zz3, zz4]) rfl ?_
        rw [← HST.out.1, ← HST.out.2]
        exact (hO6.only (only_set5 w6 (w.heap.size + 1 + 1) (.slice D1 (takeBn B t x).l.length d1) (.slice D2 (takeBn B t x).h.length d2) (.slice D3 (takeBn B t x).w.length d3) (.slice D4 (takeBn B t x).f.length d4) (.int .i64 (takeBn B t x).n)) (fun y hy hm => by have := hb4 y hy; have := List.mem_singleton.1 hm; omega)).retV (fun y hy => by have := hb4 y hy; omega) (below_set5 hB6 (by omega) _ _ _ _ _)
  by_cases hk2 : k = 2
  · subst hk2
    rcases (Bool.eq_false_or_eq_true (dropOk B t x)).symm with hm | hm
    · have HST : Hid (B = stepBn B ⟨2, t, x⟩ ∧ -1 = stepR B ⟨2, t, x⟩) := Lib.hid (by simp [stepBn, stepR, hok', hm, takeBn])
      have hCC := spec_DropHold _ _ _ _ B t x _ hrd3 (by omega)
      rw [hm] at hCC
      have HCC := Lib.hid hCC
      clear hok' hm hCC
      go_wp2_with (go_at_call 52; refine HCC.out.mono ?_; rintro e w4 ⟨u1, u2, u3, u4, bs4, rfl, hO4', hb4, hl4⟩; obtain ⟨D1, d1, D2, d2, D3, d3, D4, d4, rfl, rfl, rfl, rfl⟩ := hO4'.formV; have r4' := r3.below hl4 r3.lt; have hO4a := hO3.below hl4; obtain ⟨⟨i0, i1, i2, i3, i4⟩, j0, j1, j2, j3, j4⟩ := five r4'; have q4 := q3.below hl4 q3.lt; obtain ⟨⟨l0, l1, l2, l3, l4⟩, -⟩ := five q4; have hq4 := q4.lt; have hr4 := r4'.lt)
      have hO4 := (hO4a.only (only_set5 _ (w.heap.size + 1 + 1) (.slice S1 B.l.length s1) (.slice S2 B.h.length s2) (.slice S3 B.w.length s3) (.slice S4 B.f.length s4) (.int .i64 B.n)) (fun y hy hm => by have := hbs y hy; have := List.mem_singleton.1 hm; omega)).below ((Below.refl _ _).alloc (Nat.le_refl _) (.cells #[.slice D1 (dropBn B t x).l.length d1, .slice D2 (dropBn B t x).h.length d2, .slice D3 (dropBn B t x).w.length d3, .slice D4 (dropBn B t x).f.length d4, .int .i64 (dropBn B t x).n] 31))
      have hB4 := hB3.trans (hl4.mono hB3.size)
      have qF := (r4'.set5 (.slice S1 B.l.length s1) (.slice S2 B.h.length s2) (.slice S3 B.w.length s3) (.slice S4 B.f.length s4) (.int .i64 B.n)).alloc (.cells #[.slice D1 (dropBn B t x).l.length d1, .slice D2 (dropBn B t x).h.length d2, .slice D3 (dropBn B t x).w.length d3, .slice D4 (dropBn B t x).f.length d4, .int .i64 (dropBn B t x).n] 31)
      obtain ⟨⟨zz0, zz1, zz2, zz3, zz4⟩, -⟩ := five qF
      refine bodyPost_ret (v := .tuple #[.agg #[.slice S1 B.l.length s1, .slice S2 B.h.length s2, .slice S3 B.w.length s3, .slice S4 B.f.length s4, .int .i64 B.n], .int .i64 (-1)]) (by simp [results, Try.results10, go_sem, zz0, zz1, zz2, zz3, zz4]) rfl ?_
      rw [← HST.out.1, ← HST.out.2]
      exact hO4.retV (fun y hy => by have := hbs y hy; omega) ((below_set5 hB4 (by omega) _ _ _ _ _).alloc (below_set5 hB4 (by omega) _ _ _ _ _).size _)
    · have HST : Hid (relBn (dropBn B t x) x = stepBn B ⟨2, t, x⟩ ∧ relR (dropBn B t x) x = stepR B ⟨2, t, x⟩) := Lib.hid (by simp [stepBn, stepR, hok', hm])
      have hCC := spec_DropHold _ _ _ _ B t x _ hrd3 (by omega)
      rw [hm] at hCC
      have HCC := Lib.hid hCC
      clear hok' hm hCC
      go_upto_region 16 with (go_at_call 52; refine HCC.out.mono ?_; rintro e w4 ⟨u1, u2, u3, u4, bs4, rfl, hO4', hb4, hl4⟩; obtain ⟨D1, d1, D2, d2, D3, d3, D4, d4, rfl, rfl, rfl, rfl⟩ := hO4'.formV)
      have hs4 := hl4.size
      have hbA := hl4.alloc hl4.size (.cells #[.slice D1 (dropBn B t x).l.length d1, .slice D2 (dropBn B t x).h.length d2, .slice D3 (dropBn B t x).w.length d3, .slice D4 (dropBn B t x).f.length d4, .int .i64 (dropBn B t x).n] 31)
      have o5 := o3.below hbA o3.lt
      have r5 := r3.below hbA r3.lt
      have q5 := Bk.new w4 #[.slice D1 (dropBn B t x).l.length d1, .slice D2 (dropBn B t x).h.length d2, .slice D3 (dropBn B t x).w.length d3, .slice D4 (dropBn B t x).f.length d4, .int .i64 (dropBn B t x).n] 31
      have hO5 := hO4'.below ((Below.refl _ _).alloc (Nat.le_refl _) (.cells #[.slice D1 (dropBn B t x).l.length d1, .slice D2 (dropBn B t x).h.length d2, .slice D3 (dropBn B t x).w.length d3, .slice D4 (dropBn B t x).f.length d4, .int .i64 (dropBn B t x).n] 31))
      have hB5 := hB3.trans (hbA.mono hB3.size)
      have hlt4 := hO4'.lt
      obtain ⟨W5, hW5⟩ : ∃ W5, W5 = w4.alloc (.cells #[.slice D1 (dropBn B t x).l.length d1, .slice D2 (dropBn B t x).h.length d2, .slice D3 (dropBn B t x).w.length d3, .slice D4 (dropBn B t x).f.length d4, .int .i64 (dropBn B t x).n] 31) := ⟨_, rfl⟩
      have hz5 : w4.heap.size < W5.heap.size := by rw [hW5]; simp
      rw [← hW5] at o5 r5 q5 hO5 hB5
      rw [← hW5]
      clear hW5 hbA e0 e1 e2 e3 e4 f0 f1 f2 f3 f4 h0 h1 h2 h3 h4 g0 g1 g2 g3 g4 m0 m1 m2 hl4 hO4' q3 r3 o3 k3
      obtain ⟨m0, m1, m2⟩ := o5.opc
      obtain ⟨⟨f0, f1, f2, f3, f4⟩, -⟩ := five q5
      go_wp2_with (go_at_call 53; refine (spec_FreeIdle _ _ _ _ (dropBn B t x) bs4 x w3.heap.size _ hO5 (drop_ok HOK.out) hb4 (by omega)).mono ?_; rintro e w6 ⟨v1, v2, v3, v4, bs6, rfl, hO6, hb6, hl6⟩; obtain ⟨E1, e1', E2, e2', E3, e3', E4, e4', rfl, rfl, rfl, rfl⟩ := hO6.formV; have r6 := r5.below hl6 r5.lt; obtain ⟨⟨h0, h1, h2, h3, h4⟩, g0, g1, g2, g3, g4⟩ := five r6)
      have hB6 := hB5.trans (hl6.mono hB5.size)
      have qF := r6.set5 (.slice E1 (relBn (dropBn B t x) x).l.length e1') (.slice E2 (relBn (dropBn B t x) x).h.length e2') (.slice E3 (relBn (dropBn B t x) x).w.length e3') (.slice E4 (relBn (dropBn B t x) x).f.length e4') (.int .i64 (relBn (dropBn B t x) x).n)
      obtain ⟨⟨zz0, zz1, zz2, zz3, zz4⟩, -⟩ := five qF
      refine bodyPost_ret (v := .tuple #[.agg #[.slice E1 (relBn (dropBn B t x) x).l.length e1', .slice E2 (relBn (dropBn B t x) x).h.length e2', .slice E3 (relBn (dropBn B t x) x).w.length e3', .slice E4 (relBn (dropBn B t x) x).f.length e4', .int .i64 (relBn (dropBn B t x) x).n], .int .i64 (relR (dropBn B t x) x)]) (by simp [results, Try.results10, go_sem, zz0, zz1, zz2, zz3, zz4]) rfl ?_
      rw [← HST.out.1, ← HST.out.2]
      exact (hO6.only (only_set5 w6 (w.heap.size + 1 + 1) (.slice E1 (relBn (dropBn B t x) x).l.length e1') (.slice E2 (relBn (dropBn B t x) x).h.length e2') (.slice E3 (relBn (dropBn B t x) x).w.length e3') (.slice E4 (relBn (dropBn B t x) x).f.length e4') (.int .i64 (relBn (dropBn B t x) x).n)) (fun y hy hm => by have := hb6 y hy; have := List.mem_singleton.1 hm; omega)).retV (fun y hy => by have := hb6 y hy; omega) (below_set5 hB6 (by omega) _ _ _ _ _)
  by_cases hk3 : k = 3
  · subst hk3
    rcases (Bool.eq_false_or_eq_true (cutOk B x)).symm with hm | hm
    · have HST : Hid (B = stepBn B ⟨3, t, x⟩ ∧ -1 = stepR B ⟨3, t, x⟩) := Lib.hid (by simp [stepBn, stepR, hok', hm, takeBn])
      have hCC := spec_CutObj _ _ _ _ B x _ hrd3 (by omega)
      rw [hm] at hCC
      have HCC := Lib.hid hCC
      clear hok' hm hCC
      go_wp2_with (go_at_call 54; refine HCC.out.mono ?_; rintro e w4 ⟨u1, u2, u3, u4, bs4, rfl, hO4', hb4, hl4⟩; obtain ⟨D1, d1, D2, d2, D3, d3, D4, d4, rfl, rfl, rfl, rfl⟩ := hO4'.formV; have r4' := r3.below hl4 r3.lt; have hO4a := hO3.below hl4; obtain ⟨⟨i0, i1, i2, i3, i4⟩, j0, j1, j2, j3, j4⟩ := five r4'; have q4 := q3.below hl4 q3.lt; obtain ⟨⟨l0, l1, l2, l3, l4⟩, -⟩ := five q4; have hq4 := q4.lt; have hr4 := r4'.lt)
      have hO4 := (hO4a.only (only_set5 _ (w.heap.size + 1 + 1) (.slice S1 B.l.length s1) (.slice S2 B.h.length s2) (.slice S3 B.w.length s3) (.slice S4 B.f.length s4) (.int .i64 B.n)) (fun y hy hm => by have := hbs y hy; have := List.mem_singleton.1 hm; omega)).below ((Below.refl _ _).alloc (Nat.le_refl _) (.cells #[.slice D1 (cutBn B x).l.length d1, .slice D2 (cutBn B x).h.length d2, .slice D3 (cutBn B x).w.length d3, .slice D4 (cutBn B x).f.length d4, .int .i64 (cutBn B x).n] 31))
      have hB4 := hB3.trans (hl4.mono hB3.size)
      have qF := (r4'.set5 (.slice S1 B.l.length s1) (.slice S2 B.h.length s2) (.slice S3 B.w.length s3) (.slice S4 B.f.length s4) (.int .i64 B.n)).alloc (.cells #[.slice D1 (cutBn B x).l.length d1, .slice D2 (cutBn B x).h.length d2, .slice D3 (cutBn B x).w.length d3, .slice D4 (cutBn B x).f.length d4, .int .i64 (cutBn B x).n] 31)
      obtain ⟨⟨zz0, zz1, zz2, zz3, zz4⟩, -⟩ := five qF
      refine bodyPost_ret (v := .tuple #[.agg #[.slice S1 B.l.length s1, .slice S2 B.h.length s2, .slice S3 B.w.length s3, .slice S4 B.f.length s4, .int .i64 B.n], .int .i64 (-1)]) (by simp [results, Try.results10, go_sem, zz0, zz1, zz2, zz3, zz4]) rfl ?_
      rw [← HST.out.1, ← HST.out.2]
      exact hO4.retV (fun y hy => by have := hbs y hy; omega) ((below_set5 hB4 (by omega) _ _ _ _ _).alloc (below_set5 hB4 (by omega) _ _ _ _ _).size _)
    · have HST : Hid (relBn (cutBn B x) x = stepBn B ⟨3, t, x⟩ ∧ relR (cutBn B x) x = stepR B ⟨3, t, x⟩) := Lib.hid (by simp [stepBn, stepR, hok', hm])
      have hCC := spec_CutObj _ _ _ _ B x _ hrd3 (by omega)
      rw [hm] at hCC
      have HCC := Lib.hid hCC
      clear hok' hm hCC
      go_upto_region 21 with (go_at_call 54; refine HCC.out.mono ?_; rintro e w4 ⟨u1, u2, u3, u4, bs4, rfl, hO4', hb4, hl4⟩; obtain ⟨D1, d1, D2, d2, D3, d3, D4, d4, rfl, rfl, rfl, rfl⟩ := hO4'.formV)
      have hs4 := hl4.size
      have hbA := hl4.alloc hl4.size (.cells #[.slice D1 (cutBn B x).l.length d1, .slice D2 (cutBn B x).h.length d2, .slice D3 (cutBn B x).w.length d3, .slice D4 (cutBn B x).f.length d4, .int .i64 (cutBn B x).n] 31)
      have o5 := o3.below hbA o3.lt
      have r5 := r3.below hbA r3.lt
      have q5 := Bk.new w4 #[.slice D1 (cutBn B x).l.length d1, .slice D2 (cutBn B x).h.length d2, .slice D3 (cutBn B x).w.length d3, .slice D4 (cutBn B x).f.length d4, .int .i64 (cutBn B x).n] 31
      have hO5 := hO4'.below ((Below.refl _ _).alloc (Nat.le_refl _) (.cells #[.slice D1 (cutBn B x).l.length d1, .slice D2 (cutBn B x).h.length d2, .slice D3 (cutBn B x).w.length d3, .slice D4 (cutBn B x).f.length d4, .int .i64 (cutBn B x).n] 31))
      have hB5 := hB3.trans (hbA.mono hB3.size)
      have hlt4 := hO4'.lt
      obtain ⟨W5, hW5⟩ : ∃ W5, W5 = w4.alloc (.cells #[.slice D1 (cutBn B x).l.length d1, .slice D2 (cutBn B x).h.length d2, .slice D3 (cutBn B x).w.length d3, .slice D4 (cutBn B x).f.length d4, .int .i64 (cutBn B x).n] 31) := ⟨_, rfl⟩
      have hz5 : w4.heap.size < W5.heap.size := by rw [hW5]; simp
      rw [← hW5] at o5 r5 q5 hO5 hB5
      rw [← hW5]
      clear hW5 hbA e0 e1 e2 e3 e4 f0 f1 f2 f3 f4 h0 h1 h2 h3 h4 g0 g1 g2 g3 g4 m0 m1 m2 hl4 hO4' q3 r3 o3 k3
      obtain ⟨m0, m1, m2⟩ := o5.opc
      obtain ⟨⟨f0, f1, f2, f3, f4⟩, -⟩ := five q5
      go_wp2_with (go_at_call 53; refine (spec_FreeIdle _ _ _ _ (cutBn B x) bs4 x w3.heap.size _ hO5 (cut_ok HOK.out) hb4 (by omega)).mono ?_; rintro e w6 ⟨v1, v2, v3, v4, bs6, rfl, hO6, hb6, hl6⟩; obtain ⟨E1, e1', E2, e2', E3, e3', E4, e4', rfl, rfl, rfl, rfl⟩ := hO6.formV; have r6 := r5.below hl6 r5.lt; obtain ⟨⟨h0, h1, h2, h3, h4⟩, g0, g1, g2, g3, g4⟩ := five r6)
      have hB6 := hB5.trans (hl6.mono hB5.size)
      have qF := r6.set5 (.slice E1 (relBn (cutBn B x) x).l.length e1') (.slice E2 (relBn (cutBn B x) x).h.length e2') (.slice E3 (relBn (cutBn B x) x).w.length e3') (.slice E4 (relBn (cutBn B x) x).f.length e4') (.int .i64 (relBn (cutBn B x) x).n)
      obtain ⟨⟨zz0, zz1, zz2, zz3, zz4⟩, -⟩ := five qF
      refine bodyPost_ret (v := .tuple #[.agg #[.slice E1 (relBn (cutBn B x) x).l.length e1', .slice E2 (relBn (cutBn B x) x).h.length e2', .slice E3 (relBn (cutBn B x) x).w.length e3', .slice E4 (relBn (cutBn B x) x).f.length e4', .int .i64 (relBn (cutBn B x) x).n], .int .i64 (relR (cutBn B x) x)]) (by simp [results, Try.results10, go_sem, zz0, zz1, zz2, zz3, zz4]) rfl ?_
      rw [← HST.out.1, ← HST.out.2]
      exact (hO6.only (only_set5 w6 (w.heap.size + 1 + 1) (.slice E1 (relBn (cutBn B x) x).l.length e1') (.slice E2 (relBn (cutBn B x) x).h.length e2') (.slice E3 (relBn (cutBn B x) x).w.length e3') (.slice E4 (relBn (cutBn B x) x).f.length e4') (.int .i64 (relBn (cutBn B x) x).n)) (fun y hy hm => by have := hb6 y hy; have := List.mem_singleton.1 hm; omega)).retV (fun y hy => by have := hb6 y hy; omega) (below_set5 hB6 (by omega) _ _ _ _ _)
  by_cases h6 : k = 4 ∨ k = 5 ∨ k = 6
  · have hst := step_456 hok' t x h6
    have hWK := spec_Worker t w3
    have HWK : Hid (∀ W : World, Calls Try.prog 55 #[.int .i64 t] W fun e w' => e = .returned (.bool (inB t 0 4)) ∧ W = w') := Lib.hid (fun W => spec_Worker t W)
    clear hWK hok'
    cases hin : inB t 0 4
    all_goals
      rw [hin] at hst HWK
      have HST : Hid (B = stepBn B ⟨k, t, x⟩ ∧ _ = stepR B ⟨k, t, x⟩) := Lib.hid hst
      clear hst hin
    · rcases h6 with rfl | rfl | rfl
      all_goals
        go_wp2_with (go_at_call 55; refine (HWK.out _).mono ?_; rintro e w4 ⟨rfl, rfl⟩)
        have qF := r3.set5 (.slice S1 B.l.length s1) (.slice S2 B.h.length s2) (.slice S3 B.w.length s3) (.slice S4 B.f.length s4) (.int .i64 B.n)
        obtain ⟨⟨zz0, zz1, zz2, zz3, zz4⟩, -⟩ := five qF
        refine bodyPost_ret (v := .tuple #[.agg #[.slice S1 B.l.length s1, .slice S2 B.h.length s2, .slice S3 B.w.length s3, .slice S4 B.f.length s4, .int .i64 B.n], .int .i64 (-1)]) (by simp [results, Try.results10, go_sem, zz0, zz1, zz2, zz3, zz4]) rfl ?_
        have hSTT := HST.out; simp only [Bool.false_eq_true, if_false] at hSTT; rw [← hSTT.1, ← hSTT.2]
        exact (hO3.only (only_set5 _ (w.heap.size + 1 + 1) _ _ _ _ _) (fun y hy hm => by have := hbs y hy; have := List.mem_singleton.1 hm; omega)).retV (fun y hy => by have := hbs y hy; omega) (below_set5 hB3 (by omega) _ _ _ _ _)
    · rcases h6 with rfl | rfl | rfl
      all_goals
        go_wp2_with (go_at_call 55; refine (HWK.out _).mono ?_; rintro e w4 ⟨rfl, rfl⟩)
        have qF := r3.set5 (.slice S1 B.l.length s1) (.slice S2 B.h.length s2) (.slice S3 B.w.length s3) (.slice S4 B.f.length s4) (.int .i64 B.n)
        obtain ⟨⟨zz0, zz1, zz2, zz3, zz4⟩, -⟩ := five qF
        refine bodyPost_ret (v := .tuple #[.agg #[.slice S1 B.l.length s1, .slice S2 B.h.length s2, .slice S3 B.w.length s3, .slice S4 B.f.length s4, .int .i64 B.n], .int .i64 (0)]) (by simp [results, Try.results10, go_sem, zz0, zz1, zz2, zz3, zz4]) rfl ?_
        have hSTT := HST.out; simp only [if_true] at hSTT; rw [← hSTT.1, ← hSTT.2]
        exact (hO3.only (only_set5 _ (w.heap.size + 1 + 1) _ _ _ _ _) (fun y hy hm => by have := hbs y hy; have := List.mem_singleton.1 hm; omega)).retV (fun y hy => by have := hbs y hy; omega) (below_set5 hB3 (by omega) _ _ _ _ _)
  · have HST := Lib.hid (step_else hok' t x (show k < 0 ∨ 6 < k by omega))
    have x0 : (k == 0) = false := by simp; omega
    have x1 : (k == 1) = false := by simp; omega
    have x2 : (k == 2) = false := by simp; omega
    have x3 : (k == 3) = false := by simp; omega
    have x4 : (k == 4) = false := by simp; omega
    have x5 : (k == 5) = false := by simp; omega
    have x6 : (k == 6) = false := by simp; omega
    clear hok' hk0 hk1 hk2 hk3 h6
    go_wp2_with fail
    have qF := r3.set5 (.slice S1 B.l.length s1) (.slice S2 B.h.length s2) (.slice S3 B.w.length s3) (.slice S4 B.f.length s4) (.int .i64 B.n)
    obtain ⟨⟨zz0, zz1, zz2, zz3, zz4⟩, -⟩ := five qF
    refine bodyPost_ret (v := .tuple #[.agg #[.slice S1 B.l.length s1, .slice S2 B.h.length s2, .slice S3 B.w.length s3, .slice S4 B.f.length s4, .int .i64 B.n], .int .i64 (-1)]) (by simp [results, Try.results10, go_sem, zz0, zz1, zz2, zz3, zz4]) rfl ?_
    rw [← HST.out.1, ← HST.out.2]
    exact (hO3.only (only_set5 _ (w.heap.size + 1 + 1) _ _ _ _ _) (fun y hy hm => by have := hbs y hy; have := List.mem_singleton.1 hm; omega)).retV (fun y hy => by have := hbs y hy; omega) (below_set5 hB3 (by omega) _ _ _ _ _)
end Go.Proofs.Ytiamkgkhamnaeaa
