/- Contracts of do (method of impl's counted bench) and of StepCount (package impl). Conditions: the bench's rows can be read and hold numbers of 64 bits; lengths that a law bounds. -/
import Derived.Test.YtiamkgkhamnaeaaNC3
namespace Go.Proofs.Ytiamkgkhamnaeaa
set_option maxRecDepth 20000
set_option linter.unusedSimpArgs false
set_option linter.unusedVariables false
open Go.ChangeShapes Go.WideShapes Go.ChangeAt Go.RowKit
set_option linter.unusedVariables false
theorem RetCd.of {g lo : Nat} {B B' : Bn} {r r' : Int} {w w1 : World} {e : Ending} {w' : World} (h : RetCd g lo B r w1 e w') (hb : Below w.heap.size w w1) (hB : B = B') (hr : r = r') : RetCd g lo B' r' w e w' := by
  subst hB hr
  exact ⟨h.1, h.2.1, (Only.of_below hb _).trans h.2.2⟩
theorem step_0 {B : Bn} (h : bnOk B = true) (t x : Int) : makeBn B = stepBn B ⟨0, t, x⟩ ∧ makeR B = stepR B ⟨0, t, x⟩ := by simp [stepBn, stepR, h]
theorem step_1 {B : Bn} (h : bnOk B = true) (t x : Int) : takeBn B t x = stepBn B ⟨1, t, x⟩ ∧ takeR B t x = stepR B ⟨1, t, x⟩ := by simp [stepBn, stepR, h, takeR]
theorem step_2 {B : Bn} (h : bnOk B = true) (t x : Int) : dropRel B t x = stepBn B ⟨2, t, x⟩ ∧ dropRR B t x = stepR B ⟨2, t, x⟩ := by simp [stepBn, stepR, h, dropRel, dropRR]
theorem step_3 {B : Bn} (h : bnOk B = true) (t x : Int) : cutRel B x = stepBn B ⟨3, t, x⟩ ∧ cutRR B x = stepR B ⟨3, t, x⟩ := by simp [stepBn, stepR, h, cutRel, cutRR]
theorem step_456 {B : Bn} (h : bnOk B = true) {k : Int} (t x : Int) (hk : k = 4 ∨ k = 5 ∨ k = 6) : B = stepBn B ⟨k, t, x⟩ ∧ (if inB t 0 4 then 0 else -1) = stepR B ⟨k, t, x⟩ := by
  rcases hk with rfl | rfl | rfl <;> simp [stepBn, stepR, h]
theorem step_else {B : Bn} (h : bnOk B = true) {k : Int} (t x : Int) (hk : k < 0 ∨ 6 < k) : B = stepBn B ⟨k, t, x⟩ ∧ -1 = stepR B ⟨k, t, x⟩ := by
  have h0 : ¬ k = 0 := by omega
  have h1 : ¬ k = 1 := by omega
  have h2 : ¬ k = 2 := by omega
  have h3 : ¬ k = 3 := by omega
  have h4 : ¬ (k = 4 ∨ k = 5 ∨ k = 6) := by omega
  simp [stepBn, stepR, h, h0, h1, h2, h3, h4]
set_option maxHeartbeats 1600000 in
theorem impl_do (g lo : Nat) (B : Bn) (o : O3) (w : World) (h : Cd w g lo B) (hok : bnOk B = true) (hlo : lo ≤ w.heap.size) :
    Calls Try.prog 61 #[.pointer (some ⟨g, 0, none⟩), .agg #[.int .i64 o.k, .int .i64 o.t, .int .i64 o.x]] w (RetCd g lo (stepBn B o) (stepR B o) w) := by
  obtain ⟨k, t, x⟩ := o
  have hB0 := (Below.refl w.heap.size w).alloc (Nat.le_refl _) (.cells #[.int .i64 k, .int .i64 t, .int .i64 x] 35)
  have hC0 := CdR.below h hB0
  have hl0 : lo ≤ (w.alloc (.cells #[.int .i64 k, .int .i64 t, .int .i64 x] 35)).heap.size := by have := hB0.size; omega
  show Calls Try.prog 61 #[.pointer (some ⟨g, 0, none⟩), .agg #[.int .i64 k, .int .i64 t, .int .i64 x]] w (RetCd g lo (stepBn B ⟨k, t, x⟩) (stepR B ⟨k, t, x⟩) w)
  by_cases h0 : k = 0
  · subst h0
    have HC := Lib.hid (impl_create g lo B _ hC0 hok hl0)
    go_enter Try.func61, Try.ntmps61
    go_wp2_with (go_at_call 100; refine HC.out.mono ?_; rintro e w1 ⟨rfl, hcd, hon⟩)
    go_ret
    exact RetCd.of ⟨rfl, hcd, hon⟩ hB0 (step_0 hok t x).1 (step_0 hok t x).2
  by_cases h1 : k = 1
  · subst h1
    have HC := Lib.hid (impl_take g lo B t x _ hC0 hok hl0)
    go_enter Try.func61, Try.ntmps61
    go_wp2_with (go_at_call 101; refine HC.out.mono ?_; rintro e w1 ⟨rfl, hcd, hon⟩)
    go_ret
    exact RetCd.of ⟨rfl, hcd, hon⟩ hB0 (step_1 hok t x).1 (step_1 hok t x).2
  by_cases h2 : k = 2
  · subst h2
    have HC := Lib.hid (impl_drop g lo B t x _ hC0 hok hl0)
    go_enter Try.func61, Try.ntmps61
    go_wp2_with (go_at_call 102; refine HC.out.mono ?_; rintro e w1 ⟨rfl, hcd, hon⟩)
    go_ret
    exact RetCd.of ⟨rfl, hcd, hon⟩ hB0 (step_2 hok t x).1 (step_2 hok t x).2
  by_cases h3 : k = 3
  · subst h3
    have HC := Lib.hid (impl_cut g lo B x _ hC0 hok hl0)
    go_enter Try.func61, Try.ntmps61
    go_wp2_with (go_at_call 103; refine HC.out.mono ?_; rintro e w1 ⟨rfl, hcd, hon⟩)
    go_ret
    exact RetCd.of ⟨rfl, hcd, hon⟩ hB0 (step_3 hok t x).1 (step_3 hok t x).2
  by_cases h6 : k = 4 ∨ k = 5 ∨ k = 6
  · have hst := step_456 hok t x h6
    cases hin : inB t 0 4
    all_goals
      rw [hin] at hst
      have hI := impl_indexOk t 5 (w.alloc (.cells #[.int .i64 k, .int .i64 t, .int .i64 x] 35))
      rw [show (5 : Int) - 1 = 4 from rfl, hin] at hI
      have HI := Lib.hid hI
      have HST := Lib.hid hst
      clear hst hI hin
      rcases h6 with rfl | rfl | rfl
    all_goals
      go_enter Try.func61, Try.ntmps61
      go_wp2_with (go_at_call 79; refine HI.out.mono ?_; rintro e w1 ⟨rfl, rfl⟩)
      go_ret
      exact RetCd.of ⟨rfl, hC0, Only.refl _ _⟩ hB0 HST.out.1 (by have := HST.out.2; simpa using this)
  · have hst := step_else hok t x (show k < 0 ∨ 6 < k by omega)
    have HST := Lib.hid hst
    have e0 : (k == 0) = false := by simp; omega
    have e1 : (k == 1) = false := by simp; omega
    have e2 : (k == 2) = false := by simp; omega
    have e3 : (k == 3) = false := by simp; omega
    have e4 : (k == 4) = false := by simp; omega
    have e5 : (k == 5) = false := by simp; omega
    have e6 : (k == 6) = false := by simp; omega
    clear hst h0 h1 h2 h3 h6
    go_enter Try.func61, Try.ntmps61
    go_wp2_with fail
    go_ret
    exact RetCd.of ⟨rfl, hC0, Only.refl _ _⟩ hB0 HST.out.1 HST.out.2
theorem OwnBn.retV {w w' : World} {a b c d x : Value} {B : Bn} {bs : List Nat} (h : OwnBn w' a b c d B bs) (hlo : ∀ y ∈ bs, w.heap.size ≤ y) (hb : Below w.heap.size w w') : RetBnV B x w (.returned (.tuple #[.agg #[a, b, c, d, .int .i64 B.n], x])) w' :=
  ⟨a, b, c, d, bs, rfl, h, hlo, hb⟩
set_option maxHeartbeats 1600000 in
theorem impl_StepCount (a b c d : Value) (B : Bn) (o : O3) (w : World) (r : RdBn w a b c d B) (hw : BnR B) (hsz : szBn B ≤ 16777215) :
    Calls Try.prog 13 #[.agg #[a, b, c, d, .int .i64 B.n], .agg #[.int .i64 o.k, .int .i64 o.t, .int .i64 o.x]] w (RetBnV (stepBn B o) (.int .i64 (stepR B o)) w) := by
  obtain ⟨A1, c1, A2, c2, A3, c3, A4, c4, ⟨rfl, rfl, rfl, rfl⟩, -, -⟩ := r.slices
  obtain ⟨W0, hW0⟩ : ∃ W0, W0 = ((w.alloc (.cells #[.slice A1 B.l.length c1, .slice A2 B.h.length c2, .slice A3 B.w.length c3, .slice A4 B.f.length c4, .int .i64 B.n] 31)).alloc (.cells #[.int .i64 o.k, .int .i64 o.t, .int .i64 o.x] 35)).alloc (.cells #[.slice none 0 0, .slice none 0 0, .slice none 0 0, .slice none 0 0, .int .i64 0] 31) := ⟨_, rfl⟩
  have hB0 := (((Below.refl w.heap.size w).alloc (Nat.le_refl _) (.cells #[.slice A1 B.l.length c1, .slice A2 B.h.length c2, .slice A3 B.w.length c3, .slice A4 B.f.length c4, .int .i64 B.n] 31)).alloc (by simp) (.cells #[.int .i64 o.k, .int .i64 o.t, .int .i64 o.x] 35)).alloc (by simp; omega) (.cells #[.slice none 0 0, .slice none 0 0, .slice none 0 0, .slice none 0 0, .int .i64 0] 31)
  have k0 := ((Bk.new w #[.slice A1 B.l.length c1, .slice A2 B.h.length c2, .slice A3 B.w.length c3, .slice A4 B.f.length c4, .int .i64 B.n] 31).alloc (.cells #[.int .i64 o.k, .int .i64 o.t, .int .i64 o.x] 35)).alloc (.cells #[.slice none 0 0, .slice none 0 0, .slice none 0 0, .slice none 0 0, .int .i64 0] 31)
  have o0 := (Bk.new (w.alloc (.cells #[.slice A1 B.l.length c1, .slice A2 B.h.length c2, .slice A3 B.w.length c3, .slice A4 B.f.length c4, .int .i64 B.n] 31)) #[.int .i64 o.k, .int .i64 o.t, .int .i64 o.x] 35).alloc (.cells #[.slice none 0 0, .slice none 0 0, .slice none 0 0, .slice none 0 0, .int .i64 0] 31)
  have r0 := Bk.new ((w.alloc (.cells #[.slice A1 B.l.length c1, .slice A2 B.h.length c2, .slice A3 B.w.length c3, .slice A4 B.f.length c4, .int .i64 B.n] 31)).alloc (.cells #[.int .i64 o.k, .int .i64 o.t, .int .i64 o.x] 35)) #[.slice none 0 0, .slice none 0 0, .slice none 0 0, .slice none 0 0, .int .i64 0] 31
  simp only [World.size_alloc] at o0 r0
  rw [← hW0] at hB0 k0 o0 r0
  have hz0 : w.heap.size + 3 ≤ W0.heap.size := by rw [hW0]; simp
  have hrd := r.below hB0
  have HC := Lib.hid (impl_BenchOk _ _ _ _ B W0 hrd hw (by omega))
  have HW0 := Lib.hid hW0
  clear hW0
  cases hok : bnOk B
  · have HST : Hid (stepBn B o = B ∧ stepR B o = -1) := Lib.hid (by simp [stepBn, stepR, hok])
    rw [hok] at HC
    clear hok
    go_enter Try.func13, Try.ntmps13
    go_upto_region 2 with (go_at_call 58; rw [← HW0.out]; refine HC.out.mono ?_; rintro e w1 ⟨rfl, hb1⟩; have k1 := k0.below hb1 k0.lt; have r1 := r0.below hb1 r0.lt; have hrd1 := hrd.below hb1; have hB1 := hB0.trans (hb1.mono hB0.size); obtain ⟨⟨e0, e1, e2, e3, e4⟩, -⟩ := five k1)
    go_wp2_with (go_at_call 59; refine (copyBenchT _ _ _ _ B _ hrd1 (by omega)).mono ?_; rintro e w2 ⟨u1, u2, u3, u4, rfl, hO2, hb2⟩; obtain ⟨D1, d1, rfl⟩ := owns_form' hO2.l; obtain ⟨D2, d2, rfl⟩ := owns_form' hO2.h; obtain ⟨D3, d3, rfl⟩ := owns_form' hO2.q; obtain ⟨D4, d4, rfl⟩ := owns_form' hO2.f; have r2 := r1.below hb2 r1.lt; obtain ⟨⟨f0, f1, f2, f3, f4⟩, g0, g1, g2, g3, g4⟩ := five r2)
    have qF := r2.set5 (.slice D1 (B).l.length d1) (.slice D2 (B).h.length d2) (.slice D3 (B).w.length d3) (.slice D4 (B).f.length d4) (.int .i64 (B).n)
    obtain ⟨⟨zz0, zz1, zz2, zz3, zz4⟩, -⟩ := five qF
    refine bodyPost_ret (v := .tuple #[.agg #[.slice D1 (B).l.length d1, .slice D2 (B).h.length d2, .slice D3 (B).w.length d3, .slice D4 (B).f.length d4, .int .i64 (B).n], .int .i64 (-1)]) (by simp [results, Try.results13, go_sem, zz0, zz1, zz2, zz3, zz4]) rfl ?_
    rw [HST.out.1, HST.out.2]
    obtain ⟨bs, hOw, hlo⟩ := hO2.own
    have hB2 := hB1.trans (hb2.mono hB1.size)
    have hs1 := hb1.size
    exact (hOw.only (only_set5 _ (w.heap.size + 1 + 1) _ _ _ _ _) (fun y hy hm => by have := hlo y hy; have := List.mem_singleton.1 hm; omega)).retV (fun y hy => by have := hlo y hy; omega) (below_set5 hB2 (by omega) _ _ _ _ _)
  · have HOK := Lib.hid hok
    rw [hok] at HC
    clear hok
    go_enter Try.func13, Try.ntmps13
    go_upto_region 3 with (go_at_call 58; rw [← HW0.out]; refine HC.out.mono ?_; rintro e w1 ⟨rfl, hb1⟩; have k1 := k0.below hb1 k0.lt; have o1 := o0.below hb1 o0.lt; have r1 := r0.below hb1 r0.lt; have hrd1 := hrd.below hb1; have hB1 := hB0.trans (hb1.mono hB0.size); obtain ⟨⟨e0, e1, e2, e3, e4⟩, -⟩ := five k1)
    have hs1 := hb1.size
    go_wp2_with (first
      | (go_at_call 60; refine (impl_newCounted _ _ _ _ B _ hrd1 HOK.out).mono ?_; rintro e w3 ⟨g, rfl, hcd, hg, hb3⟩; have o3 := o1.below hb3 o1.lt; have r3 := r1.below hb3 r1.lt; have hs3 := hb3.size; obtain ⟨m0, -⟩ := o3.at_ 0 (x := .int .i64 o.k) rfl; obtain ⟨m1, -⟩ := o3.at_ 1 (x := .int .i64 o.t) rfl; obtain ⟨m2, -⟩ := o3.at_ 2 (x := .int .i64 o.x) rfl)
      | (go_at_call 61; refine (impl_do g _ B o _ hcd HOK.out hs3).mono ?_; rintro e w4 ⟨rfl, ⟨u1, u2, u3, u4, bs, kc, hO4, hlo⟩, hon⟩; obtain ⟨D1, d1, D2, d2, D3, d3, D4, d4, rfl, rfl, rfl, rfl⟩ := hO4.formV; have r2 := r3.only hon (by simp; omega); obtain ⟨⟨f0, f1, f2, f3, f4⟩, -⟩ := cdA_five kc; obtain ⟨⟨h0, h1, h2, h3, h4⟩, g0, g1, g2, g3, g4⟩ := five r2))
    have qF := r2.set5 (.slice D1 (stepBn B o).l.length d1) (.slice D2 (stepBn B o).h.length d2) (.slice D3 (stepBn B o).w.length d3) (.slice D4 (stepBn B o).f.length d4) (.int .i64 (stepBn B o).n)
    obtain ⟨⟨zz0, zz1, zz2, zz3, zz4⟩, -⟩ := five qF
    refine bodyPost_ret (v := .tuple #[.agg #[.slice D1 (stepBn B o).l.length d1, .slice D2 (stepBn B o).h.length d2, .slice D3 (stepBn B o).w.length d3, .slice D4 (stepBn B o).f.length d4, .int .i64 (stepBn B o).n], .int .i64 (stepR B o)]) (by simp [results, Try.results13, go_sem, zz0, zz1, zz2, zz3, zz4]) rfl ?_
    have hB3 := hB1.trans (hb3.mono hB1.size)
    have hB4 := hB3.trans (hon.below (B := w.heap.size) hB3.size (by simp; omega))
    have hs3 := hb3.size
    exact (hO4.only (only_set5 _ (w.heap.size + 1 + 1) _ _ _ _ _) (fun y hy hm => by have := (hlo y hy).1; have := List.mem_singleton.1 hm; omega)).retV (fun y hy => by have := (hlo y hy).1; omega) (below_set5 hB4 (by omega) _ _ _ _ _)
end Go.Proofs.Ytiamkgkhamnaeaa
