/- FnCounted answers true at every input. Helpers of the law: equality of rows and of benches that stand for the same. Conditions: none. -/
import Derived.Test.YtiamkgkhamnaeaaLaw
import Derived.Test.YtiamkgkhamnaeaaVE
import Derived.Test.YtiamkgkhamnaeaaNC8
import Derived.Test.YtiamkgkhamnaeaaDrawO2
namespace Go.Proofs.Ytiamkgkhamnaeaa
set_option maxRecDepth 20000
set_option linter.unusedSimpArgs false
set_option linter.unusedVariables false
open Go.ChangeShapes Go.WideShapes Go.ChangeAt Go.RowKit
set_option linter.unusedVariables false
set_option maxHeartbeats 400000 in
theorem lawbigC (A : Option Addr) (n c : Nat) (w : World) (hnc : n ≤ c) (hc : c ≤ 9223372036854775807) :
    Calls Try.prog 30 #[.slice A n c] w fun e w' => e = .returned (.bool (decide ((1048576 : Int) < n))) ∧ w = w' := by
  go_enter Try.func30, Try.ntmps30
  go_wp2_with fail
  go_ret
  exact ⟨rfl, rfl⟩
set_option maxHeartbeats 800000 in
theorem lawAtC (A : Option Addr) (n c : Nat) (i : Nat) (w : World) (h : Byt w A n) (hnc : n ≤ c) (hc : c ≤ 9223372036854775807) (hn : n ≤ 1048576) (hi : i ≤ 100) :
    Calls Try.prog 43 #[.slice A n c, .int .i64 i] w fun e w' => ∃ z : Int, e = .returned (.int .i64 z) ∧ 0 ≤ z ∧ z ≤ 255 ∧ w = w' := by
  by_cases hlt : i < n
  · obtain ⟨ad, rfl, hb, hcell⟩ := h (by omega)
    obtain ⟨x, hx0, hx1, hx⟩ := hcell i hlt
    have hlt' : (i : Int) < n := by omega
    have hxr : IntKind.i64.wrap x = x := IntWalk.i64_in _ (by omega)
    clear hcell h
    go_enter Try.func43, Try.ntmps43
    go_wp2_with fail
    go_ret
    exact ⟨x, ret_int (by first | exact hxr | rfl), hx0, hx1, rfl⟩
  · have hlt' : ¬ (i : Int) < n := by omega
    have e1 : IntKind.i64.wrap ((i : Int) * 13) = (i : Int) * 13 := IntWalk.i64_in _ (by omega)
    have e2 : IntKind.i64.wrap ((n : Int) * 5) = (n : Int) * 5 := IntWalk.i64_in _ (by omega)
    have e3 : IntKind.i64.wrap ((i : Int) * 13 + (n : Int) * 5) = (i : Int) * 13 + (n : Int) * 5 := IntWalk.i64_in _ (by omega)
    clear h
    go_enter Try.func43, Try.ntmps43
    go_wp2_with fail
    go_ret
    refine ⟨_, rfl, ?_, ?_, rfl⟩
    all_goals omega
set_option maxHeartbeats 800000 in
theorem lawSameC (v u : Value) (xs : List Int) (w : World) (h : Rd w v 1 xs.length (ints xs)) (h' : Rd w u 1 xs.length (ints xs)) :
    Calls Try.prog 32 #[v, u] w fun e w' => e = .returned (.bool true) ∧ Below w.heap.size w w' := by
  obtain ⟨A, c, rfl, -, hnc, hc, hr⟩ := h
  obtain ⟨A', c', rfl, -, hnc', hc', hr'⟩ := h'
  unfold maxLen at hc hc'
  go_enter Try.func32, Try.ntmps32
  go_wp2
  go_loopw [5] (fun i wr => ∃ k nq : Nat, k ≤ xs.length ∧ i = .int .i64 k ∧ wr = w.drewN nq) (fun i _ => xs.length - (intOf i).toNat)
  case atStart => exact ⟨0, 0, Nat.zero_le _, rfl, rfl⟩
  case round =>
    obtain ⟨k, nq, hk, rfl, rfl⟩ := hrel
    by_cases hlt : k < xs.length
    · obtain ⟨b, o, rfl, hb, hcell⟩ := hr (by omega)
      obtain ⟨b', o', rfl, hb', hcell'⟩ := hr' (by omega)
      obtain ⟨x, hxk, hx⟩ := int_at hcell hlt
      obtain ⟨y, hyk, hy⟩ := int_at (k := k) hcell' hlt
      obtain rfl : x = y := Option.some.inj (hxk.out.symm.trans hyk.out)
      clear hcell hcell' hr hr'
      go_wp2_with fail
      go_quiet (fail)
      go_wp2
      exact ⟨⟨k + 1, _, by omega, by go_num, rfl⟩, by simp [intOf]; omega⟩
    · go_wp2_with fail
      go_ret
      exact ⟨rfl, below_more (Below.refl _ _) _⟩
set_option maxHeartbeats 3200000 in
theorem lawSameBench (a b c d a' b' c' d' : Value) (B : Bn) (w : World) (r : RdBn w a b c d B) (r' : RdBn w a' b' c' d' B) (hsz : B.h.length ≤ 16777216) :
    Calls Try.prog 33 #[.agg #[a, b, c, d, .int .i64 B.n], .agg #[a', b', c', d', .int .i64 B.n]] w fun e w' => e = .returned (.bool true) ∧ Below w.heap.size w w' := by
  obtain ⟨A1, c1, A2, c2, A3, c3, A4, c4, ⟨rfl, rfl, rfl, rfl⟩, -, -⟩ := r.slices
  obtain ⟨E1, e1, E2, e2, E3, e3, E4, e4, ⟨rfl, rfl, rfl, rfl⟩, -, -⟩ := r'.slices
  have hB0 := ((Below.refl w.heap.size w).alloc (Nat.le_refl _) (.cells #[.slice A1 B.l.length c1, .slice A2 B.h.length c2, .slice A3 B.w.length c3, .slice A4 B.f.length c4, .int .i64 B.n] 31)).alloc (by simp) (.cells #[.slice E1 B.l.length e1, .slice E2 B.h.length e2, .slice E3 B.w.length e3, .slice E4 B.f.length e4, .int .i64 B.n] 31)
  have k0 := (Bk.new w #[.slice A1 B.l.length c1, .slice A2 B.h.length c2, .slice A3 B.w.length c3, .slice A4 B.f.length c4, .int .i64 B.n] 31).alloc (.cells #[.slice E1 B.l.length e1, .slice E2 B.h.length e2, .slice E3 B.w.length e3, .slice E4 B.f.length e4, .int .i64 B.n] 31)
  have q0 := Bk.new (w.alloc (.cells #[.slice A1 B.l.length c1, .slice A2 B.h.length c2, .slice A3 B.w.length c3, .slice A4 B.f.length c4, .int .i64 B.n] 31)) #[.slice E1 B.l.length e1, .slice E2 B.h.length e2, .slice E3 B.w.length e3, .slice E4 B.f.length e4, .int .i64 B.n] 31
  simp only [World.size_alloc] at q0
  have HR := Lib.hid r
  have HR' := Lib.hid r'
  obtain ⟨W0, hW0⟩ : ∃ W0, W0 = (w.alloc (.cells #[.slice A1 B.l.length c1, .slice A2 B.h.length c2, .slice A3 B.w.length c3, .slice A4 B.f.length c4, .int .i64 B.n] 31)).alloc (.cells #[.slice E1 B.l.length e1, .slice E2 B.h.length e2, .slice E3 B.w.length e3, .slice E4 B.f.length e4, .int .i64 B.n] 31) := ⟨_, rfl⟩
  rw [← hW0] at hB0 k0 q0
  have HW0 := Lib.hid hW0
  obtain ⟨⟨s0, s1, s2, s3, s4⟩, -⟩ := five k0
  obtain ⟨⟨t0, t1, t2, t3, t4⟩, -⟩ := five q0
  clear hW0 r r'
  go_enter Try.func33, Try.ntmps33
  go_upto_region 1 with (fail)
  rw [← HW0.out]
  go_upto_region 3 with (first
    | (go_at_call_of 32 (Value.slice A1 B.l.length c1 : Value); refine (lawSameC _ _ B.l _ (HR.out.below hB0).l (HR'.out.below hB0).l).mono ?_; rintro e w1 ⟨rfl, hb1⟩; have k1 := k0.below hb1 k0.lt; have q1 := q0.below hb1 q0.lt; have hB1 := hB0.trans (hb1.mono hB0.size); obtain ⟨⟨u0, u1, u2, u3, u4⟩, -⟩ := five k1; obtain ⟨⟨v0, v1, v2, v3, v4⟩, -⟩ := five q1; clear s0 s1 s2 s3 s4 t0 t1 t2 t3 t4)
    | (go_at_call_of 32 (Value.slice A3 B.w.length c3 : Value); refine (lawSameC _ _ B.w _ (HR.out.below hB1).q (HR'.out.below hB1).q).mono ?_; rintro e w2 ⟨rfl, hb2⟩; have k2 := k1.below hb2 k1.lt; have q2 := q1.below hb2 q1.lt; have hB2 := hB1.trans (hb2.mono hB1.size); obtain ⟨⟨s0, s1, s2, s3, s4⟩, -⟩ := five k2; obtain ⟨⟨t0, t1, t2, t3, t4⟩, -⟩ := five q2)
    | (go_at_call_of 32 (Value.slice A4 B.f.length c4 : Value); refine (lawSameC _ _ B.f _ (HR.out.below hB2).f (HR'.out.below hB2).f).mono ?_; rintro e w3 ⟨rfl, hb3⟩; have k3 := k2.below hb3 k2.lt; have q3 := q2.below hb3 q2.lt; have hB3 := hB2.trans (hb3.mono hB2.size); obtain ⟨⟨y0, y1, y2, y3, y4⟩, -⟩ := five k3; obtain ⟨⟨z0, z1, z2, z3, z4⟩, -⟩ := five q3))
  go_wp2_with fail
  clear s0 s1 s2 s3 s4 t0 t1 t2 t3 t4 u0 u1 u2 u3 u4 v0 v1 v2 v3 v4 y0 y1 y2 y3 y4 z0 z1 z2 z3 z4
  go_loopw [5] (fun iv wr => ∃ k : Nat, k ≤ B.h.length ∧ iv = .int .i64 k ∧ Below w3.heap.size w3 wr) (fun iv _ => B.h.length - (intOf iv).toNat)
  case atStart => exact ⟨0, Nat.zero_le _, rfl, Below.refl _ _⟩
  case round =>
    obtain ⟨k, hk, rfl, hbr⟩ := hrel
    have k4 := k3.below hbr k3.lt
    have q4 := q3.below hbr q3.lt
    obtain ⟨y1, -⟩ := k4.at_ 1 (x := .slice A2 B.h.length c2) rfl
    obtain ⟨z1, -⟩ := q4.at_ 1 (x := .slice E2 B.h.length e2) rfl
    by_cases hlt : k < B.h.length
    · obtain ⟨A, cc, he, -, -, -, hr⟩ := (HR.out.below (hB3.trans (hbr.mono hB3.size))).h
      injection he with ee1 ee3 ee2
      subst ee1 ee2
      clear ee3
      obtain ⟨A', cc', he', -, -, -, hr'⟩ := (HR'.out.below (hB3.trans (hbr.mono hB3.size))).h
      injection he' with ee1 ee3 ee2
      subst ee1 ee2
      clear ee3
      obtain ⟨b, o, rfl, hb, hcell⟩ := hr (by omega)
      obtain ⟨b', o', rfl, hb', hcell'⟩ := hr' (by omega)
      obtain ⟨x, hxk, hx0, hx1⟩ := p2_at hcell hlt
      obtain ⟨y, hyk, hy0, hy1⟩ := p2_at (k := k) hcell' hlt
      obtain rfl : x = y := Option.some.inj (hxk.out.symm.trans hyk.out)
      obtain ⟨xa, xb⟩ := x
      simp only at hx0 hx1 hy0 hy1
      have p1 := fun q : Past wr => Past.cell k4.lt y1 q
      have p2 := fun q : Past wr => Past.cell q4.lt z1 q
      have p3 := fun q : Past wr => Past.cell hb hx0 q
      have p4 := fun q : Past wr => Past.cell hb hx1 q
      have p5 := fun q : Past wr => Past.cell hb' hy0 q
      have p6 := fun q : Past wr => Past.cell hb' hy1 q
      clear hcell hcell' hr hr' hx0 hx1 hy0 hy1 k4 q4
      go_upto_region 6 with (fail)
      clear y1 z1
      refine wp_region_two 10 10 (fun w' => ∃ q : Past wr, w' = q.v) (fun _ => True) (by kernel_rfl) ?_
      obtain ⟨w0, hw0⟩ : ∃ w0, w0 = wr.drew := ⟨_, rfl⟩
      have T0 : Hid (Below wr.heap.size wr w0) := Lib.hid (by rw [hw0]; exact (Below.refl _ _).drew)
      rw [← hw0]
      clear hw0
      refine wpAnyX_pass (C := (fun w' => ∃ q : Past wr, w' = q.v)) (some false) [true, true, true, true, true, true, true, true, true, true] rfl (by kernel_rfl) (fun _ _ t _ _ h => by cases t <;> exact h) ⟨fun _ => ⟨⟨w0, T0.out⟩, rfl⟩, fun _ => trivial⟩ ?_
      simp only [keepOps]
      repeat (go_big_quiet_step (fail))
      refine wpQuiet_nil ?_
      clear p1 p2 p3 p4 p5 p6
      refine wpAnyX_one 10 rfl (by kernel_rfl) (by kernel_rfl) ?_
      go_wp2_with fail
      refine ⟨⟨fun h => absurd (show true = false from h) (by decide), fun _ => trivial⟩, ?_⟩
      refine wpAnyX_done (by kernel_rfl) ?_
      try dsimp only
      go_wp2_with fail
      exact ⟨⟨k + 1, by omega, by go_num, hbr.trans (T0.out.mono hbr.size)⟩, by simp [intOf]; omega⟩
    · obtain rfl : k = B.h.length := by omega
      go_wp2_with fail
      go_ret
      exact ⟨rfl, hB3.trans (hbr.mono hB3.size)⟩
set_option maxHeartbeats 6400000 in
theorem walk_Counted (A : Option Addr) (n c : Nat) (w : World) (h : Byt w A n) (hnc : n ≤ c) (hc : c ≤ 9223372036854775807) :
    Calls Try.prog 7 #[.slice A n c] w fun e w' => e = .returned (.bool true) ∧ Below w.heap.size w w' := by
  by_cases hbig : 1048576 < n
  · have hb' : decide ((1048576 : Int) < n) = true := by simp; omega
    go_enter Try.func7, Try.ntmps7
    go_wp2_with (go_at_call 30; refine (lawbigC _ _ _ _ hnc hc).mono ?_; rintro e w' ⟨rfl, rfl⟩)
    go_ret
    exact ⟨rfl, Below.refl _ _⟩
  have hn : n ≤ 1048576 := by omega
  have hb' : decide ((1048576 : Int) < n) = false := by simp; omega
  have HD := Lib.hid (DrawPlayCount A n c w h hnc hc hn)
  clear h
  go_enter Try.func7, Try.ntmps7
  go_upto_region 4 with (first
    | (go_at_call 30; refine (lawbigC _ _ _ _ hnc hc).mono ?_; rintro e w' ⟨rfl, rfl⟩)
    | (go_at_call 31; refine HD.out.mono ?_; rintro e w1 ⟨v, L, rfl, hL, hrow, hb1⟩))
  obtain ⟨bsL, hoL, -⟩ := Own.of_owns hrow
  have hRd := hoL.rd
  obtain ⟨T, tc, rfl⟩ := owns_form' hrow
  have hBH : Hid (Below w.heap.size w w1) := Lib.hid hb1
  clear hrow hoL
  go_upto_region 6 with (first
    | (go_at_call 18; refine (spec_PlayCount _ L _ hRd).mono ?_; rintro e w2 ⟨a, b, c2, d, bs, v2, ds, rfl, hO2, hr2, -, -, -, hb2⟩; obtain ⟨A1, c1, A2, c2', A3, c3, A4, c4, rfl, rfl, rfl, rfl⟩ := hO2.formV; obtain ⟨V2, e2, rfl, -, -⟩ := hr2.slice)
    | (go_at_call 20; refine (impl_PlayCount _ L _ ((hRd.below hb2).below ((Below.refl _ _).alloc (Nat.le_refl _) _))).mono ?_; rintro e w3 ⟨a', b', c2'', d', bs', v3, ds', rfl, hO3, hr3, -, -, -, hb3⟩; obtain ⟨E1, e1, E2, e2', E3, e3, E4, e4, rfl, rfl, rfl, rfl⟩ := hO3.formV; obtain ⟨V3, e5, rfl, -, -⟩ := hr3.slice))
  have hsz := play_sizes L
  have hsh : (playB L).h.length ≤ 16777216 := by have := hsz.2; unfold cntBn at this; omega
  have hB3 := (hb1.trans (hb2.mono hb1.size)).trans ((((Below.refl w2.heap.size w2).alloc (Nat.le_refl _) (.cells #[.slice A1 (playB L).l.length c1, .slice A2 (playB L).h.length c2', .slice A3 (playB L).w.length c3, .slice A4 (playB L).f.length c4, .int .i64 (playB L).n] 31)).trans (hb3.mono (by simp))).mono (hb1.trans (hb2.mono hb1.size)).size)
  have hal2 := (Below.refl w2.heap.size w2).alloc (Nat.le_refl _) (.cells #[.slice A1 (playB L).l.length c1, .slice A2 (playB L).h.length c2', .slice A3 (playB L).w.length c3, .slice A4 (playB L).f.length c4, .int .i64 (playB L).n] 31)
  have kw := ((Bk.new w2 #[.slice A1 (playB L).l.length c1, .slice A2 (playB L).h.length c2', .slice A3 (playB L).w.length c3, .slice A4 (playB L).f.length c4, .int .i64 (playB L).n] 31).below hb3 (by simp)).alloc (.cells #[.slice E1 (playB L).l.length e1, .slice E2 (playB L).h.length e2', .slice E3 (playB L).w.length e3, .slice E4 (playB L).f.length e4, .int .i64 (playB L).n] 31)
  have kb := Bk.new w3 #[.slice E1 (playB L).l.length e1, .slice E2 (playB L).h.length e2', .slice E3 (playB L).w.length e3, .slice E4 (playB L).f.length e4, .int .i64 (playB L).n] 31
  have hal3 := (Below.refl w3.heap.size w3).alloc (Nat.le_refl _) (.cells #[.slice E1 (playB L).l.length e1, .slice E2 (playB L).h.length e2', .slice E3 (playB L).w.length e3, .slice E4 (playB L).f.length e4, .int .i64 (playB L).n] 31)
  have rw4 := (((hO2.below hal2).below hb3).below hal3).rd
  have rb4 := (hO3.below hal3).rd
  have rt4 := (((hr2.below hal2).below hb3).below hal3).rd
  have rl4 := (hr3.below hal3).rd
  have hB4 := hB3.trans (hal3.mono hB3.size)
  obtain ⟨W4, hW4⟩ : ∃ W4, W4 = w3.alloc (.cells #[.slice E1 (playB L).l.length e1, .slice E2 (playB L).h.length e2', .slice E3 (playB L).w.length e3, .slice E4 (playB L).f.length e4, .int .i64 (playB L).n] 31) := ⟨_, rfl⟩
  rw [← hW4] at kw kb rw4 rb4 rt4 rl4 hB4
  rw [← hW4]
  clear hW4 hO2 hO3 hr2 hr3 hb1 hb2 hb3 hB3 hal2 hal3 hRd
  have HS1 := Lib.hid (lawSameC _ _ (playR L) _ rl4 rt4)
  have HRB := Lib.hid rb4
  have HRW := Lib.hid rw4
  clear rt4 rl4 rb4 rw4
  by_cases hL3 : 300 < L.length
  · have HN : Hid ((playB L).n = 0) := Lib.hid (by unfold playB; rw [if_pos hL3])
    have hL4 : (300 : Int) < L.length := by omega
    go_upto_region 8 with (first
      | (go_at_call 32; refine HS1.out.mono ?_; rintro e w5 ⟨rfl, hb5⟩; have kw5 := kw.below hb5 kw.lt; have kb5 := kb.below hb5 kb.lt; obtain ⟨⟨s0, s1, s2, s3, s4⟩, -⟩ := five kw5; obtain ⟨⟨t0, t1, t2, t3, t4⟩, -⟩ := five kb5)
      | (go_at_call 33; refine (lawSameBench _ _ _ _ _ _ _ _ _ _ (HRB.out.below hb5) (HRW.out.below hb5) hsh).mono ?_; rintro e w6 ⟨rfl, hb6⟩; have kb6 := kb5.below hb6 kb5.lt; obtain ⟨u4, -⟩ := kb6.at_ 4 (x := .int .i64 (playB L).n) rfl))
    rw [HN.out] at u4
    go_wp2_with fail
    go_ret
    exact ⟨rfl, hB4.trans ((hb5.trans (hb6.mono hb5.size)).mono hB4.size)⟩
  · have hok := play_ok L (by omega)
    have hnr := (bnOk_iff.1 hok).1
    have hn0 : ((playB L).n == 0) = false := by simp; omega
    have HZ := Lib.hid (zero_play (ops := L) (by omega))
    have HSUM := Lib.hid (sum_all hok)
    have hszb := ok_sz hok
    go_upto_region 12 with (first
      | (go_at_call 32; refine HS1.out.mono ?_; rintro e w5 ⟨rfl, hb5⟩; have kw5 := kw.below hb5 kw.lt; have kb5 := kb.below hb5 kb.lt; obtain ⟨⟨s0, s1, s2, s3, s4⟩, -⟩ := five kw5; obtain ⟨⟨t0, t1, t2, t3, t4⟩, -⟩ := five kb5)
      | (go_at_call 33; refine (lawSameBench _ _ _ _ _ _ _ _ _ _ (HRB.out.below hb5) (HRW.out.below hb5) hsh).mono ?_; rintro e w6 ⟨rfl, hb6⟩; have kb6 := kb5.below hb6 kb5.lt; have hb46 := hb5.trans (hb6.mono hb5.size); obtain ⟨⟨u0, u1, u2, u3, u4⟩, -⟩ := five kb6)
      | (go_at_call 29; refine (impl_ZeroLeft _ _ _ _ (playB L) _ (HRB.out.below hb46) (ok_BnR hok) (by omega)).mono ?_; rintro e w7 ⟨v7, bs7, rfl, ho7, -, hb7⟩; rw [HZ.out] at ho7; obtain ⟨V7, d7, rfl, -, -⟩ := ho7.slice; have kb7 := kb6.below hb7 kb6.lt; have hb47 := hb46.trans (hb7.mono hb46.size)))
    clear s0 s1 s2 s3 s4 t0 t1 t2 t3 t4 u0 u1 u2 u3 u4
    go_wp2_with fail
    go_loopw [8, 9] (fun nv xv wr => ∃ k : Nat, (k : Int) + 1 ≤ (playB L).n ∧ xv = .int .i64 ((k : Int) + 1) ∧ nv = .int .i64 (sumTo (playB L) k) ∧ Below W4.heap.size W4 wr) (fun _ xv _ => 62 - (intOf xv).toNat)
    case atStart => exact ⟨0, by omega, rfl, rfl, hb47⟩
    case round =>
      obtain ⟨k, hk, rfl, rfl, hbr⟩ := hrel
      have kr := kb.below hbr kb.lt
      obtain ⟨⟨t0, t1, t2, t3, t4⟩, -⟩ := five kr
      have hle := sumTo_le hok k
      have hcl := cnt_le hok ((k : Int) + 1)
      by_cases hlt : (k : Int) + 1 < (playB L).n
      · have hcf : countF (playB L) ((k : Int) + 1) = cntR (playB L) ((k : Int) + 1) := by
          unfold countF
          rw [hok, show crB (playB L).n ((k : Int) + 1) = true by unfold crB; simp; omega]
          rfl
        have hCT := impl_CountOf _ _ _ _ (playB L) ((k : Int) + 1) wr (HRB.out.below hbr) (ok_BnR hok) (by omega)
        rw [hcf] at hCT
        have HCT := Lib.hid hCT
        have hs1 : sumTo (playB L) k + cntR (playB L) ((k : Int) + 1) = sumTo (playB L) (k + 1) := rfl
        have HS9 := Lib.hid hs1
        clear hCT hcf hs1
        go_wp2_with (go_at_call 27; refine HCT.out.mono ?_; rintro e w8 ⟨rfl, hb8⟩)
        exact ⟨⟨k + 1, by omega, by go_num, by rw [HS9.out], hbr.trans (hb8.mono hbr.size)⟩, by simp [intOf]; omega⟩
      · have hkn : k = ((playB L).n - 1).toNat := by omega
        have hsm : sumTo (playB L) k = ((playB L).l.length : Int) + (playB L).h.length := by rw [hkn]; exact HSUM.out
        have hq : (sumTo (playB L) k == ((playB L).l.length : Int) + (playB L).h.length) = true := by rw [hsm]; simp
        have hl1 := bnOk_small (bnOk_iff.1 hok)
        have hl2 := bnOk_held (bnOk_iff.1 hok)
        have HQ := Lib.hid hq
        clear hkn hsm
        go_wp2_with fail
        go_ret
        exact ⟨rfl, hB4.trans (hbr.mono hB4.size)⟩
set_option maxRecDepth 100000 in
theorem lift_FnCounted (os : Os) (started : os.Started) (H : Type) (enc : TypeId × Value → H) :
    ReturnsInHanded {} Try.checked os 7 .any (Rows.fnCountedSpec.pre6 enc Try.prog Try.f7 Rows.fnCountedRow.domain false) (Rows.fnCountedSpec.post enc Try.prog Try.f7 false true false false) := by
  refine returnsInHanded_of_change (C := Try.checked) (by kernel_rfl) started (by kernel_rfl) Try.func7
    (ChangeSpec.witness6 (enc := enc) (C := Try.checked) false ⟨#[], #[.slice none 0 0], []⟩ 8 (by kernel_rfl) (by kernel_rfl) (by kernel_rfl) (by kernel_rfl)) ?_
  intro W base args ds gs before hval0 hW hcnd _
  have hval : ∀ (j : Nat) t v, Try.f7.params[j]? = some t → args[j]? = some v → Value.okWide Try.prog W .any base t v := hval0
  have hW' := hW
  obtain ⟨p, q, hA0, hV, rfl, hfz, hnd⟩ := hW
  have hA : DataW.TrodAll enc Try.prog W 0 (fun _ => true) true Try.f7.params.toList args.toList ds p := hA0
  rw [Try.params7] at hA hval
  obtain ⟨v0, vs0, d0, ds0, p0, q0, hargs, rfl, rfl, h0, r0⟩ := trodAll_cons hA
  obtain ⟨rfl, rfl, rfl⟩ := trodAll_nil r0
  obtain rfl : args = #[v0] := by cases args; simp_all
  obtain ⟨rfl, rfl⟩ := trodVars_none hV
  obtain ⟨A, n, c, rfl, hb, hnc, hc⟩ := read_bytes Try.underlying54 Try.underlying5 (by kernel_rfl) (hval 0 _ v0 rfl rfl) h0
  refine (walk_Counted A n c W hb hnc hc).mono fun e W' ⟨he, hb⟩ => ?_
  subst he
  exact ⟨_, rfl, post_law (by kernel_rfl) rfl rfl (by kernel_rfl) Try.underlying4 (of_decide_eq_true (by kernel_rfl)) hW' hb⟩
theorem FnCounted_holds : Rows.FnCountedSaid :=
  OpenClaim.holds_of_wide 7 Try.f7 rfl rfl rfl rfl rfl rfl rfl ⟨rfl, rfl, rfl, rfl, rfl⟩ rfl rfl rfl rfl rfl (by kernel_rfl) Try.func7 (by kernel_rfl)
    (of_decide_eq_true (by kernel_rfl)) (by unfold Func.isWrapper; first | (rw [if_pos (by decide +kernel)]; kernel_rfl) | (rw [if_neg (by decide +kernel)]; exact ⟨rfl, rfl⟩))
    (fun os started H enc _ => lift_FnCounted os started H enc)
#print axioms FnCounted_holds
end Go.Proofs.Ytiamkgkhamnaeaa
