/- Contracts of CountOf and ZeroLeft of package spec. Conditions: the bench's rows can be read; lengths that a law bounds. -/
import Derived.Test.YtiamkgkhamnaeaaNC1
import Derived.Test.YtiamkgkhamnaeaaN7
namespace Go.Proofs.Ytiamkgkhamnaeaa
set_option maxRecDepth 20000
set_option linter.unusedSimpArgs false
set_option linter.unusedVariables false
open Go.ChangeShapes Go.WideShapes Go.ChangeAt Go.RowKit
set_option linter.unusedVariables false
theorem hold_le {B : Bn} (h : bnOk B = true) (x : Int) : holdN B x ≤ 300 := by
  have := bnOk_held (bnOk_iff.1 h)
  have := List.length_filter_le (fun e : P2 => e.b == x) B.h
  unfold holdN
  omega
set_option maxHeartbeats 800000 in
theorem spec_CountOf (a b c d : Value) (B : Bn) (x : Int) (w : World) (r : RdBn w a b c d B) (hsz : szBn B ≤ 16777216) :
    Calls Try.prog 26 #[.agg #[a, b, c, d, .int .i64 B.n], .int .i64 x] w fun e w' => e = .returned (.int .i64 (countF B x)) ∧ Below w.heap.size w w' := by
  obtain ⟨A1, c1, A2, c2, A3, c3, A4, c4, ⟨rfl, rfl, rfl, rfl⟩, -, -⟩ := r.slices
  have hB0 := (Below.refl w.heap.size w).alloc (Nat.le_refl _) (.cells #[.slice A1 B.l.length c1, .slice A2 B.h.length c2, .slice A3 B.w.length c3, .slice A4 B.f.length c4, .int .i64 B.n] 31)
  have k0 := Bk.new w #[.slice A1 B.l.length c1, .slice A2 B.h.length c2, .slice A3 B.w.length c3, .slice A4 B.f.length c4, .int .i64 B.n] 31
  have hC := spec_BenchOk _ _ _ _ B _ (r.below hB0) hsz
  have HR := Lib.hid r
  cases hok : bnOk B
  · rw [hok] at hC
    have HC := Lib.hid hC
    have HF : Hid (countF B x = -1) := Lib.hid (by simp [countF, hok])
    clear hC hok r
    go_enter Try.func26, Try.ntmps26
    go_wp2_with (go_at_call 35; refine HC.out.mono ?_; rintro e w1 ⟨rfl, hb1⟩)
    go_ret
    exact ⟨ret_int HF.out.symm, hB0.trans (hb1.mono hB0.size)⟩
  · rw [hok] at hC
    have HC := Lib.hid hC
    have hnr := (bnOk_iff.1 hok).1
    have HO := Lib.hid hok
    clear hC hok r
    have hIN : crB B.n x = inB x 1 (B.n - 1) := by
      unfold crB inB
      rw [Bool.eq_iff_iff]
      simp
      omega
    cases hcr : inB x 1 (B.n - 1)
    · have HF : Hid (countF B x = -1) := Lib.hid (by simp [countF, hIN, hcr])
      have HCR := Lib.hid hcr
      clear hcr hIN
      go_enter Try.func26, Try.ntmps26
      go_wp2_with (first
        | (go_at_call 35; refine HC.out.mono ?_; rintro e w1 ⟨rfl, hb1⟩; have k1 := k0.below hb1 k0.lt; obtain ⟨⟨e0, e1, e2, e3, e4⟩, -⟩ := five k1)
        | (go_at_call 66; refine (l01In _ _ _ _).mono ?_; rw [HCR.out]; rintro e w2 ⟨rfl, rfl⟩))
      go_ret
      exact ⟨ret_int HF.out.symm, hB0.trans (hb1.mono hB0.size)⟩
    · have HF : Hid (countF B x = (if B.l.any (· == x) then 1 else 0) + ((holdersF B x).length : Int)) := Lib.hid (by
        have h1 := linkN_one HO.out x
        unfold countF cntR holdersF
        rw [hIN, hcr, HO.out]
        simp only [Bool.and_self, if_true]
        rw [ofF_hold, h1])
      have HCR := Lib.hid hcr
      have hhl := holdersF_len B x
      clear hcr hIN
      cases hin : B.l.any (· == x)
      all_goals
        rw [hin] at HF
        have HIN := Lib.hid hin
        clear hin
        go_enter Try.func26, Try.ntmps26
        go_wp2_with (first
          | (go_at_call 35; refine HC.out.mono ?_; rintro e w1 ⟨rfl, hb1⟩; have k1 := k0.below hb1 k0.lt; obtain ⟨⟨e0, e1, e2, e3, e4⟩, -⟩ := five k1; have hB1 := hB0.trans (hb1.mono hB0.size))
          | (go_at_call 66; refine (l01In _ _ _ _).mono ?_; rw [HCR.out]; rintro e w2 ⟨rfl, rfl⟩)
          | (go_at_call 51; refine (spec_HoldersOf _ _ _ _ B x _ (HR.out.below hB1) (by omega)).mono ?_; rintro e w3 ⟨v3, bs3, rfl, ho3, -, hb3⟩; obtain ⟨V3, d3, rfl, -, -⟩ := ho3.slice; have k3 := k1.below hb3 k1.lt; have hB3 := hB1.trans (hb3.mono hB1.size); obtain ⟨⟨f0, f1, f2, f3, f4⟩, -⟩ := five k3)
          | (go_at_call 67; refine (l01Has _ B.l x _ (HR.out.below hB3).l).mono ?_; rw [HIN.out]; rintro e w4 ⟨rfl, rfl⟩))
        go_ret
        exact ⟨ret_int (by rw [HF.out]; first | (simp; omega) | simp), hB3⟩
set_option maxHeartbeats 3200000 in
theorem spec_ZeroLeft (a b c d : Value) (B : Bn) (w : World) (r : RdBn w a b c d B) (hsz : szBn B ≤ 16777216) :
    Calls Try.prog 28 #[.agg #[a, b, c, d, .int .i64 B.n]] w (RetInts (zeroF B) w) := by
  obtain ⟨A1, c1, A2, c2, A3, c3, A4, c4, ⟨rfl, rfl, rfl, rfl⟩, -, -⟩ := r.slices
  obtain ⟨i, hi, hiz0, hiz1, hiz2⟩ := info_parts infoInt
  obtain ⟨W2, hW2⟩ : ∃ W2, W2 = (w.alloc (.cells #[.slice A1 B.l.length c1, .slice A2 B.h.length c2, .slice A3 B.w.length c3, .slice A4 B.f.length c4, .int .i64 B.n] 31)).alloc (.cells #[] 3) := ⟨_, rfl⟩
  have hB0 := ((Below.refl w.heap.size w).alloc (Nat.le_refl _) (.cells #[.slice A1 B.l.length c1, .slice A2 B.h.length c2, .slice A3 B.w.length c3, .slice A4 B.f.length c4, .int .i64 B.n] 31)).alloc (by simp) (.cells #[] 3)
  have k0 := (Bk.new w #[.slice A1 B.l.length c1, .slice A2 B.h.length c2, .slice A3 B.w.length c3, .slice A4 B.f.length c4, .int .i64 B.n] 31).alloc (.cells #[] 3)
  have hO := World.ownsRow_lit (base := w.heap.size + 1) (e := 3) (size := 1) (w.alloc (.cells #[.slice A1 B.l.length c1, .slice A2 B.h.length c2, .slice A3 B.w.length c3, .slice A4 B.f.length c4, .int .i64 B.n] 31)) #[] 0 (by simp) (by simp [maxLen]) rfl
  simp only [World.size_alloc] at hO
  rw [← hW2] at hB0 k0 hO
  have r0 := r.below hB0
  have hC := spec_BenchOk _ _ _ _ B _ r0 hsz
  have HW2 := Lib.hid hW2
  cases hok : bnOk B
  · rw [hok] at hC
    have HC := Lib.hid hC
    have HO : Hid (zeroF B = []) := Lib.hid (by simp [zeroF, hok])
    clear hC hok r r0 hsz hW2
    go_enter Try.func28, Try.ntmps28
    go_wp2_with fail
    rw [← HW2.out]
    refine HC.out.mono ?_
    rintro e w1 ⟨rfl, hb1⟩
    go_wp2_with fail
    go_ret
    exact ⟨_, [], rfl, by rw [HO.out]; exact Own.nil _ _, by simp, hB0.trans (hb1.mono hB0.size)⟩
  · rw [hok] at hC
    have HC := Lib.hid hC
    have HF : Hid (zeroF B = B.w.filter fun x => cntR B x == 0) := Lib.hid (by simp [zeroF, hok])
    have HR := Lib.hid r
    have HOK := Lib.hid hok
    have hsm := bnOk_small (bnOk_iff.1 hok)
    clear hC hok r r0 hW2
    go_enter Try.func28, Try.ntmps28
    go_wp2_with fail
    rw [← HW2.out]
    refine HC.out.mono ?_
    rintro e w1 ⟨rfl, hb1⟩
    have kk := k0.below hb1 k0.lt
    have hB1 := hB0.trans (hb1.mono hB0.size)
    have hO1 := ownsRow_below hO hb1
    clear hb1 k0 hB0 hO
    go_wp2_with fail
    go_loopw [3, 4] (fun v iv wr => ∃ k m : Nat, k ≤ B.w.length ∧ iv = .int .i64 k ∧ (wr.ownsRow (w.heap.size + 1) 3 1 v m (ints ((B.w.take k).filter fun x => cntR B x == 0)) ∧ Below w.heap.size w wr) ∧ m ≤ k ∧ Bk wr w.heap.size #[.slice A1 B.l.length c1, .slice A2 B.h.length c2, .slice A3 B.w.length c3, .slice A4 B.f.length c4, .int .i64 B.n] 31) (fun _ iv _ => B.w.length - (intOf iv).toNat)
    case atStart => exact ⟨0, 0, Nat.zero_le _, rfl, ⟨hO1, hB1⟩, Nat.le_refl _, kk⟩
    case round =>
      obtain ⟨k, m, hk, rfl, ⟨hO, hB⟩, hm, kb⟩ := hrel
      clear hO1 hB1 kk
      obtain ⟨⟨t0, t1, t2, t3, t4⟩, -⟩ := five kb
      have hlb := kb.lt
      by_cases hlt : k < B.w.length
      · obtain ⟨A, cc, he, -, -, -, hr⟩ := HR.out.q
        injection he with e1 _ e2
        subst e1 e2
        obtain ⟨b, o, rfl, hb, hcell⟩ := hr (by omega)
        obtain ⟨y, hyk, hy⟩ := int_at (fun j u hu => (hB.cell (p := ⟨b, o + j, none⟩) hb).trans (hcell j u hu)) hlt
        have hyr := (held_range HOK.out).1 y (by unfold allBn; have := List.mem_of_getElem? hyk.out; simp [this])
        have hcy : countF B y = cntR B y := by
          unfold countF
          rw [HOK.out, show crB B.n y = true by
            have := (bnOk_iff.1 HOK.out).2.1.2.2 y (by unfold allBn; have := List.mem_of_getElem? hyk.out; simp [this])
            unfold crB; simp; omega]
          rfl
        have hbw : b < wr.heap.size := Nat.lt_of_lt_of_le hb hB.size
        have HCT : Hid (∀ W : World, Below wr.heap.size wr W → Calls Try.prog 26 #[.agg #[.slice A1 B.l.length c1, .slice A2 B.h.length c2, .slice (some ⟨b, o, none⟩) B.w.length c3, .slice A4 B.f.length c4, .int .i64 B.n], .int .i64 y] W fun e w' => e = .returned (.int .i64 (cntR B y)) ∧ Below W.heap.size W w') := Lib.hid (fun W hW => by
          have := spec_CountOf _ _ _ _ B y W (HR.out.below (hB.trans (hW.mono hB.size))) hsz
          rw [hcy] at this
          exact this)
        clear hcell hr hcy hyr
        have p0 := fun q : Past wr => Past.cell hlb t0 q
        have p1 := fun q : Past wr => Past.cell hlb t1 q
        have p2 := fun q : Past wr => Past.cell hlb t2 q
        have p3 := fun q : Past wr => Past.cell hlb t3 q
        have p4 := fun q : Past wr => Past.cell hlb t4 q
        have p5 := fun q : Past wr => Past.cell hbw hy q
        go_upto_region 7 with (fail)
        refine wp_region_two 6 6 (fun w' => ∃ q : Past wr, w' = q.v) (fun _ => True) (by kernel_rfl) ?_
        obtain ⟨w0, hw0⟩ : ∃ w0, w0 = wr.drew := ⟨_, rfl⟩
        have T0 : Hid (Below wr.heap.size wr w0) := Lib.hid (by rw [hw0]; exact (Below.refl _ _).drew)
        rw [← hw0]
        clear hw0
        refine wpAnyX_pass (C := (fun w' => ∃ q : Past wr, w' = q.v)) (some false) [true, true, true, true, true, true] rfl (by kernel_rfl) (fun _ _ t _ _ h => by cases t <;> exact h) ⟨fun _ => ⟨⟨w0, T0.out⟩, rfl⟩, fun _ => trivial⟩ ?_
        simp only [keepOps]
        repeat (go_big_quiet_step (fail))
        refine wpQuiet_nil ?_
        clear p0 p1 p2 p3 p4 p5
        refine wpAnyX_one 6 rfl (by kernel_rfl) (by kernel_rfl) ?_
        go_wp2_with (go_at_call 26; refine (HCT.out _ T0.out).mono ?_; rintro e w4 ⟨rfl, hb4⟩)
        refine ⟨⟨fun h => absurd (show true = false from h) (by decide), fun _ => trivial⟩, ?_⟩
        have T4 := T0.out.trans (hb4.mono T0.out.size)
        have hO4 := ownsRow_below hO T4
        have kb4 := kb.below T4 kb.lt
        have hB4 := hB.trans (T4.mono hB.size)
        have hy4 := (T4.cell (p := ⟨b, o + k, none⟩) hbw).trans hy
        obtain ⟨⟨s0, s1, s2, s3, s4⟩, -⟩ := five kb4
        clear t0 t1 t2 t3 t4 T4 hb4 T0 hO kb hB hy
        refine wpAnyX_one 7 rfl (by kernel_rfl) (by kernel_rfl) ?_
        by_cases hz : cntR B y = 0
        · have HT : Hid ((B.w.take k).filter (fun x => cntR B x == 0) ++ [y] = (B.w.take (k + 1)).filter fun x => cntR B x == 0) := Lib.hid (by rw [List.take_add_one, hyk.out, Option.toList_some, List.filter_append, List.filter_cons_of_pos (by simp [hz])]; rfl)
          have hq : (cntR B y == 0) = true := by simp [hz]
          clear hz
          go_wp2_with fail
          refine ⟨⟨fun h => absurd (show true = false from h) (by decide), fun _ => trivial⟩, ?_⟩
          refine wpAnyX_done (by kernel_rfl) ?_
          try dsimp only
          go_wp2_with (at_builtin; refine wpList_append_own _ rfl _ _ 22 rfl (w.heap.size + 1) 3 i (.int .i64 0) 1 8 Try.underlying22 hi hiz0 hiz1 hiz2 rfl (by decide) _ _ _ rfl (hO4.alloc _) ⟨w4.heap.size, 0, none⟩ 1 1 [.int .i64 y] rfl rfl (new_cells _ _ _) (by simp [Value.oneCell']) (by unfold maxLen; omega) (by omega) (by have := hB4.size; simp; omega) ?_)
          intro v' w5 hown' hgrow _
          have hB' := (hB4.alloc hB4.size _).grown hgrow (by have := hB4.size; simp; omega) (fun k hk => by have := (hO4.lt k hk).1; omega)
          have kn := (kb4.alloc (.cells #[.int .i64 y] 3)).grown hgrow (fun j hj => by have := (hO4.lt j hj).1; omega)
          rw [show ints ((B.w.take k).filter fun x => cntR B x == 0) ++ [Value.int .i64 y] = ints ((B.w.take (k + 1)).filter fun x => cntR B x == 0) by rw [← HT.out]; simp [ints]] at hown'
          clear hgrow
          go_wp2_with fail
          exact ⟨⟨k + 1, m + 1, by omega, by go_num, ⟨hown', hB'⟩, by omega, kn⟩, by simp [intOf]; omega⟩
        · have HT : Hid ((B.w.take (k + 1)).filter (fun x => cntR B x == 0) = (B.w.take k).filter fun x => cntR B x == 0) := Lib.hid (by rw [List.take_add_one, hyk.out, Option.toList_some, List.filter_append, List.filter_cons_of_neg (by simp [hz])]; simp)
          have hq : (cntR B y == 0) = false := by simp [hz]
          clear hz
          go_wp2_with fail
          refine ⟨⟨fun h => absurd (show true = false from h) (by decide), fun _ => trivial⟩, ?_⟩
          refine wpAnyX_done (by kernel_rfl) ?_
          try dsimp only
          go_wp2_with fail
          exact ⟨⟨k + 1, m, by omega, by go_num, ⟨by rw [HT.out]; exact hO4, hB4⟩, by omega, kb4⟩, by simp [intOf]; omega⟩
      · obtain rfl : k = B.w.length := by omega
        rw [List.take_length] at hO
        have HOO := Lib.hid hO
        have hm2 : m = (zeroF B).length := by have := hO.1; rw [HF.out]; simpa [ints] using this.symm
        have HM2 := Lib.hid hm2
        clear hm2
        go_wp2_with fail
        go_ret
        obtain ⟨bs, h1, h2⟩ := Own.of_owns HOO.out
        rw [HM2.out, ← HF.out] at h1
        exact ⟨_, bs, rfl, h1, fun x hx => by have := h2 x hx; omega, hB⟩
end Go.Proofs.Ytiamkgkhamnaeaa
