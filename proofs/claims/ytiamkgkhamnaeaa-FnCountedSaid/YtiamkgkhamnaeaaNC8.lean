/- Contract of PlayCount of package spec. Condition: the operations can be read. -/
import Derived.Test.YtiamkgkhamnaeaaNC6
import Derived.Test.YtiamkgkhamnaeaaNC7
namespace Go.Proofs.Ytiamkgkhamnaeaa
set_option maxRecDepth 20000
set_option linter.unusedSimpArgs false
set_option linter.unusedVariables false
open Go.ChangeShapes Go.WideShapes Go.ChangeAt Go.RowKit
set_option linter.unusedVariables false
theorem play_sizes (ops : List O3) : (playR ops).length ≤ 300 ∧ cntBn (playB ops) ≤ 960 := by
  by_cases h : 300 < ops.length
  · unfold playR playB
    rw [if_pos h, if_pos h]
    exact ⟨by simp, by simp [cntBn]⟩
  · have h1 := ok_sz (play_ok ops (by omega))
    have h2 : cntBn (playB ops) ≤ 2 * szBn (playB ops) := by unfold cntBn szBn; omega
    refine ⟨?_, by omega⟩
    unfold playR
    rw [if_neg h, pl_len]
    omega
set_option maxHeartbeats 6400000 in
theorem spec_PlayCount (v : Value) (ops : List O3) (w : World) (h : Rd w v 3 ops.length (flc3 ops)) :
    Calls Try.prog 18 #[v] w (RetBI (playB ops) (playR ops) w) := by
  obtain ⟨A, c, rfl, -, hnc, hc, hr⟩ := h
  unfold maxLen at hc
  have hB0 := (Below.refl w.heap.size w).alloc (Nat.le_refl _) (.cells #[.slice none 0 0, .slice none 0 0, .slice none 0 0, .slice none 0 0, .int .i64 0] 31)
  have r0 := Bk.new w #[.slice none 0 0, .slice none 0 0, .slice none 0 0, .slice none 0 0, .int .i64 0] 31
  by_cases hbig : 300 < ops.length
  · have HP : Hid (playB ops = ⟨[], [], [], [], 0⟩ ∧ playR ops = []) := Lib.hid (by unfold playB playR; rw [if_pos hbig, if_pos hbig]; exact ⟨rfl, rfl⟩)
    go_enter Try.func18, Try.ntmps18
    go_wp2_with fail
    obtain ⟨⟨zz0, zz1, zz2, zz3, zz4⟩, -⟩ := five r0
    refine bodyPost_ret (v := .tuple #[.agg #[.slice none 0 0, .slice none 0 0, .slice none 0 0, .slice none 0 0, .int .i64 0], .slice none 0 0]) (by simp [results, Try.results18, go_sem, zz0, zz1, zz2, zz3, zz4]) rfl ?_
    rw [HP.out.1, HP.out.2]
    exact ⟨_, _, _, _, [], _, [], rfl, ⟨[], [], [], [], ⟨Own.nil _ _, Own.nil _ _, Own.nil _ _, Own.nil _ _⟩, ⟨by simp, by simp, by simp⟩, rfl⟩, Own.nil _ _, by simp, by simp, by simp, hB0⟩
  · obtain ⟨i, hi, hiz0, hiz1, hiz2⟩ := info_parts infoInt
    have hbn : ops.length ≤ 300 := by omega
    have HNB := Lib.hid hbig
    obtain ⟨W2, hW2⟩ : ∃ W2, W2 = ((w.alloc (.cells #[.slice none 0 0, .slice none 0 0, .slice none 0 0, .slice none 0 0, .int .i64 0] 31)).alloc (.cells #[.slice none 0 0, .slice none 0 0, .slice none 0 0, .slice none 0 0, .int .i64 1] 31)).alloc (.cells #[] 3) := ⟨_, rfl⟩
    have hB2 := (hB0.alloc hB0.size (.cells #[.slice none 0 0, .slice none 0 0, .slice none 0 0, .slice none 0 0, .int .i64 1] 31)).alloc (by simp; omega) (.cells #[] 3)
    have r2 := (r0.alloc (.cells #[.slice none 0 0, .slice none 0 0, .slice none 0 0, .slice none 0 0, .int .i64 1] 31)).alloc (.cells #[] 3)
    have q2 := (Bk.new (w.alloc (.cells #[.slice none 0 0, .slice none 0 0, .slice none 0 0, .slice none 0 0, .int .i64 0] 31)) #[.slice none 0 0, .slice none 0 0, .slice none 0 0, .slice none 0 0, .int .i64 1] 31).alloc (.cells #[] 3)
    have hO := World.ownsRow_lit (base := w.heap.size + 2) (e := 3) (size := 1) ((w.alloc (.cells #[.slice none 0 0, .slice none 0 0, .slice none 0 0, .slice none 0 0, .int .i64 0] 31)).alloc (.cells #[.slice none 0 0, .slice none 0 0, .slice none 0 0, .slice none 0 0, .int .i64 1] 31)) #[] 0 (by simp) (by simp [maxLen]) rfl
    simp only [World.size_alloc] at hO q2
    rw [← hW2] at hB2 r2 q2 hO
    have HW2 := Lib.hid hW2
    have hz2 : w.heap.size + 3 ≤ W2.heap.size := by rw [hW2]; simp
    clear hW2 hbig hB0 r0
    go_enter Try.func18, Try.ntmps18
    go_wp2_with fail
    rw [← HW2.out]
    go_loopw [5, 6] (fun tv iv wr => ∃ (k : Nat) (a b c2 d : Value) (bs : List Nat), k ≤ ops.length ∧ iv = .int .i64 k ∧ Bk wr (w.heap.size + 1) #[a, b, c2, d, .int .i64 (pl (ops.take k)).1.n] 31 ∧ Hid (OwnBn wr a b c2 d (pl (ops.take k)).1 bs) ∧ (∀ y ∈ bs, w.heap.size + 2 ≤ y) ∧ wr.ownsRow (w.heap.size + 2) 3 1 tv k (ints (pl (ops.take k)).2) ∧ (∀ y ∈ bs, tv.ownBlock ≠ some y) ∧ Below w.heap.size w wr ∧ Bk wr w.heap.size #[.slice none 0 0, .slice none 0 0, .slice none 0 0, .slice none 0 0, .int .i64 0] 31 ∧ w.heap.size + 3 ≤ wr.heap.size) (fun _ iv _ => ops.length - (intOf iv).toNat)
    case atStart => exact ⟨0, _, _, _, _, [], Nat.zero_le _, rfl, q2, Lib.hid (own0 _), by simp, hO, by simp, hB2, r2, hz2⟩
    case round =>
      obtain ⟨k, a, b, c2, d, bs, hk, rfl, kb, HOB, hbs, hO1, hne, hB, kr, hl⟩ := hrel
      clear hB2 r2 q2 hO hz2
      obtain ⟨A1, c1, A2, c2', A3, c3, A4, c4, rfl, rfl, rfl, rfl⟩ := HOB.out.formV
      obtain ⟨T, tc, rfl⟩ := owns_form' hO1
      by_cases hlt : k < ops.length
      · obtain ⟨bb, o, rfl, hb, hcell⟩ := hr (by omega)
        obtain ⟨q, hqk, hx0, hx1, hx2⟩ := o3_at (fun j u hu => (hB.cell (p := ⟨bb, o + j, none⟩) hb).trans (hcell j u hu)) hlt
        have HQ := Lib.hid hqk.out
        have hok := (pl_ok ops k).1
        have HSZ := Lib.hid (ok_sz hok)
        have hbw : bb < wr.heap.size := Nat.lt_of_lt_of_le hb hB.size
        have hkl := kb.lt
        obtain ⟨⟨t0, t1, t2, t3, t4⟩, -⟩ := five kb
        have p0 := fun q : Past wr => Past.cell hkl t0 q
        have p1 := fun q : Past wr => Past.cell hkl t1 q
        have p2 := fun q : Past wr => Past.cell hkl t2 q
        have p3 := fun q : Past wr => Past.cell hkl t3 q
        have p4 := fun q : Past wr => Past.cell hkl t4 q
        have p5 := fun q : Past wr => Past.cell hbw hx0 q
        have p6 := fun q : Past wr => Past.cell hbw hx1 q
        have p7 := fun q : Past wr => Past.cell hbw hx2 q
        clear hcell hr hok hqk t0 t1 t2 t3 t4 hx0 hx1 hx2
        go_upto_region 8 with (fail)
        go_cut [7, 8] (fun z7 z8 wz => ∃ (D1 : Option Addr) (d1 : Nat) (D2 : Option Addr) (d2 : Nat) (D3 : Option Addr) (d3 : Nat) (D4 : Option Addr) (d4 : Nat) (bs7 : List Nat) (g7 : Nat), z7 = .pointer (some ⟨g7, 0, none⟩) ∧ z8 = .int .i64 (stepR (pl (ops.take k)).1 q) ∧ OwnBn wz (.slice D1 ((stepBn (pl (ops.take k)).1 q)).l.length d1) (.slice D2 ((stepBn (pl (ops.take k)).1 q)).h.length d2) (.slice D3 ((stepBn (pl (ops.take k)).1 q)).w.length d3) (.slice D4 ((stepBn (pl (ops.take k)).1 q)).f.length d4) (stepBn (pl (ops.take k)).1 q) bs7 ∧ (∀ y ∈ bs7, wr.heap.size ≤ y) ∧ Bk wz g7 #[.slice D1 ((stepBn (pl (ops.take k)).1 q)).l.length d1, .slice D2 ((stepBn (pl (ops.take k)).1 q)).h.length d2, .slice D3 ((stepBn (pl (ops.take k)).1 q)).w.length d3, .slice D4 ((stepBn (pl (ops.take k)).1 q)).f.length d4, .int .i64 ((stepBn (pl (ops.take k)).1 q)).n] 31 ∧ wr.heap.size ≤ g7 ∧ Below wr.heap.size wr wz)
        case first =>
          refine wp_region_two 11 11 (fun w' => ∃ q : Past wr, w' = q.v) (fun _ => True) (by kernel_rfl) ?_
          obtain ⟨w0, hw0⟩ : ∃ w0, w0 = wr.drew := ⟨_, rfl⟩
          have T0 : Hid (Below wr.heap.size wr w0) := Lib.hid (by rw [hw0]; exact (Below.refl _ _).drew)
          have sT := T0.out.size
          rw [← hw0]
          clear hw0
          refine wpAnyX_pass (C := (fun w' => ∃ q : Past wr, w' = q.v)) (some false) [true, true, true, true, true] rfl (by kernel_rfl) (fun _ _ t _ _ h => by cases t <;> exact h) ⟨fun _ => ⟨⟨w0, T0.out⟩, rfl⟩, fun _ => trivial⟩ ?_
          simp only [keepOps]
          repeat (go_big_quiet_step (fail))
          refine wpQuiet_nil ?_
          clear p0 p1 p2 p3 p4 p5 p6 p7
          refine wpAnyX_two 5 9 rfl rfl (by kernel_rfl) (by kernel_rfl) ?_ ?_
          · skip
            go_wp2_with fail
            refine (spec_StepCount _ _ _ _ (pl (ops.take k)).1 q _ (HOB.out.rd.below T0.out) (by have := HSZ.out; omega)).mono ?_
            rintro e w7 ⟨x1, x2, x3, x4, bs7, rfl, ho7, lo7, hb7⟩
            obtain ⟨D1, d1, D2, d2, D3, d3, D4, d4, rfl, rfl, rfl, rfl⟩ := ho7.formV
            have HR := Lib.hid ho7
            have HL := Lib.hid lo7
            have T1 := Lib.hid (T0.out.trans (hb7.mono T0.out.size))
            have zz := hb7.size
            clear ho7 lo7 hb7
            try dsimp only
            go_wp2_with fail
            refine ⟨⟨fun _ => ⟨⟨w7, T1.out⟩, rfl⟩, fun _ => trivial⟩, ?_⟩
            refine wpAnyX_pass (C := (fun _ => True)) none [false, false, false, false, false, false, true, true, true] rfl (by kernel_rfl) (fun _ _ t _ _ h => by cases t <;> exact h) ⟨fun _ => ⟨⟨w7, T1.out⟩, rfl⟩, fun _ => trivial⟩ ?_
            simp only [keepOps]
            repeat (go_big_quiet_step (fail))
            refine wpQuiet_nil ?_
            refine wpAnyX_one 9 rfl (by kernel_rfl) (by kernel_rfl) ?_
            go_wp2_with fail
            have sg := T1.out.size
            have HQL := HR.out.lt
            obtain ⟨wA, hwA⟩ : ∃ wA, wA = w7.alloc (.cells #[.slice none 0 0, .slice none 0 0, .slice none 0 0, .slice none 0 0, .int .i64 0] 31) := ⟨_, rfl⟩
            have T2 : Hid (Below wr.heap.size wr wA) := Lib.hid (by rw [hwA]; exact T1.out.alloc T1.out.size _)
            have KB : Hid (Bk wA w7.heap.size #[.slice none 0 0, .slice none 0 0, .slice none 0 0, .slice none 0 0, .int .i64 0] 31) := Lib.hid (by rw [hwA]; exact Bk.new _ _ _)
            have HR2 : Hid (OwnBn wA (.slice D1 ((stepBn (pl (ops.take k)).1 q)).l.length d1) (.slice D2 ((stepBn (pl (ops.take k)).1 q)).h.length d2) (.slice D3 ((stepBn (pl (ops.take k)).1 q)).w.length d3) (.slice D4 ((stepBn (pl (ops.take k)).1 q)).f.length d4) (stepBn (pl (ops.take k)).1 q) bs7) := Lib.hid (by rw [hwA]; exact HR.out.below ((Below.refl _ _).alloc (Nat.le_refl _) _))
            rw [← hwA]
            clear hwA
            refine ⟨⟨fun _ => ⟨⟨wA, T2.out⟩, rfl⟩, fun _ => trivial⟩, ?_⟩
            refine wpAnyX_one 10 rfl (by kernel_rfl) (by kernel_rfl) ?_
            obtain ⟨⟨y0, y1, y2, y3, y4⟩, z0, z1, z2, z3, z4⟩ := five KB.out
            have hkl := KB.out.lt
            have htl := T2.out.size
            go_wp2_with fail
            have TS := Lib.hid (below_set5 T2.out (g := w7.heap.size) (by omega) (.slice D1 ((stepBn (pl (ops.take k)).1 q)).l.length d1) (.slice D2 ((stepBn (pl (ops.take k)).1 q)).h.length d2) (.slice D3 ((stepBn (pl (ops.take k)).1 q)).w.length d3) (.slice D4 ((stepBn (pl (ops.take k)).1 q)).f.length d4) (.int .i64 ((stepBn (pl (ops.take k)).1 q)).n))
            refine ⟨⟨fun _ => ⟨⟨_, TS.out⟩, rfl⟩, fun _ => trivial⟩, ?_⟩
            clear y0 y1 y2 y3 y4 z0 z1 z2 z3 z4
            refine wpAnyX_one 11 rfl (by kernel_rfl) (by kernel_rfl) ?_
            go_wp2_with fail
            refine ⟨⟨fun h => absurd (show true = false from h) (by decide), fun _ => trivial⟩, ?_⟩
            refine wpAnyX_done (by kernel_rfl) ?_
            try dsimp only
            go_wp2_with fail
            go_meet
            exact ⟨D1, d1, D2, d2, D3, d3, D4, d4, bs7, _, rfl, rfl, HR2.out.only (only_set5 _ w7.heap.size (.slice D1 ((stepBn (pl (ops.take k)).1 q)).l.length d1) (.slice D2 ((stepBn (pl (ops.take k)).1 q)).h.length d2) (.slice D3 ((stepBn (pl (ops.take k)).1 q)).w.length d3) (.slice D4 ((stepBn (pl (ops.take k)).1 q)).f.length d4) (.int .i64 ((stepBn (pl (ops.take k)).1 q)).n)) (fun y9 hy9 hm9 => by have := List.mem_singleton.1 hm9; have := HL.out y9 hy9; have := HR2.out.lt y9 hy9; have := HQL y9 hy9; omega), fun y9 hy9 => by have := HL.out y9 hy9; omega, KB.out.set5 (.slice D1 ((stepBn (pl (ops.take k)).1 q)).l.length d1) (.slice D2 ((stepBn (pl (ops.take k)).1 q)).h.length d2) (.slice D3 ((stepBn (pl (ops.take k)).1 q)).w.length d3) (.slice D4 ((stepBn (pl (ops.take k)).1 q)).f.length d4) (.int .i64 ((stepBn (pl (ops.take k)).1 q)).n), by omega, TS.out⟩
          · skip
            go_wp2_with fail
            obtain ⟨wA, hwA⟩ : ∃ wA, wA = w0.alloc (.cells #[.slice none 0 0, .slice none 0 0, .slice none 0 0, .slice none 0 0, .int .i64 0] 31) := ⟨_, rfl⟩
            have T1 : Hid (Below wr.heap.size wr wA) := Lib.hid (by rw [hwA]; exact T0.out.alloc T0.out.size _)
            have KA : Hid (Bk wA w0.heap.size #[.slice none 0 0, .slice none 0 0, .slice none 0 0, .slice none 0 0, .int .i64 0] 31) := Lib.hid (by rw [hwA]; exact Bk.new _ _ _)
            have zA : wA.heap.size = w0.heap.size + 1 := by rw [hwA]; simp
            rw [← hwA]
            clear hwA
            refine ⟨⟨fun _ => ⟨⟨wA, T1.out⟩, rfl⟩, fun _ => trivial⟩, ?_⟩
            refine wpAnyX_one 5 rfl (by kernel_rfl) (by kernel_rfl) ?_
            go_wp2_with fail
            refine (spec_StepCount _ _ _ _ (pl (ops.take k)).1 q _ (HOB.out.rd.below T1.out) (by have := HSZ.out; omega)).mono ?_
            rintro e w7 ⟨x1, x2, x3, x4, bs7, rfl, ho7, lo7, hb7⟩
            obtain ⟨D1, d1, D2, d2, D3, d3, D4, d4, rfl, rfl, rfl, rfl⟩ := ho7.formV
            have HR := Lib.hid ho7
            have HL := Lib.hid lo7
            have T2 := Lib.hid (T1.out.trans (hb7.mono T1.out.size))
            have zz := hb7.size
            have KB := Lib.hid (KA.out.below hb7 KA.out.lt)
            clear ho7 lo7 hb7
            try dsimp only
            go_wp2_with fail
            refine ⟨⟨fun _ => ⟨⟨w7, T2.out⟩, rfl⟩, fun _ => trivial⟩, ?_⟩
            refine wpAnyX_pass (C := (fun _ => True)) none [false, false, false, false, false, false, true, true, true] rfl (by kernel_rfl) (fun _ _ t _ _ h => by cases t <;> exact h) ⟨fun _ => ⟨⟨w7, T2.out⟩, rfl⟩, fun _ => trivial⟩ ?_
            simp only [keepOps]
            repeat (go_big_quiet_step (fail))
            refine wpQuiet_nil ?_
            refine wpAnyX_one 10 rfl (by kernel_rfl) (by kernel_rfl) ?_
            obtain ⟨⟨y0, y1, y2, y3, y4⟩, z0, z1, z2, z3, z4⟩ := five KB.out
            have hkl := KB.out.lt
            have htl := T2.out.size
            go_wp2_with fail
            have TS := Lib.hid (below_set5 T2.out (g := w0.heap.size) (by omega) (.slice D1 ((stepBn (pl (ops.take k)).1 q)).l.length d1) (.slice D2 ((stepBn (pl (ops.take k)).1 q)).h.length d2) (.slice D3 ((stepBn (pl (ops.take k)).1 q)).w.length d3) (.slice D4 ((stepBn (pl (ops.take k)).1 q)).f.length d4) (.int .i64 ((stepBn (pl (ops.take k)).1 q)).n))
            refine ⟨⟨fun _ => ⟨⟨_, TS.out⟩, rfl⟩, fun _ => trivial⟩, ?_⟩
            clear y0 y1 y2 y3 y4 z0 z1 z2 z3 z4
            refine wpAnyX_one 11 rfl (by kernel_rfl) (by kernel_rfl) ?_
            go_wp2_with fail
            refine ⟨⟨fun h => absurd (show true = false from h) (by decide), fun _ => trivial⟩, ?_⟩
            refine wpAnyX_done (by kernel_rfl) ?_
            try dsimp only
            go_wp2_with fail
            go_meet
            exact ⟨D1, d1, D2, d2, D3, d3, D4, d4, bs7, _, rfl, rfl, HR.out.only (only_set5 _ w0.heap.size (.slice D1 ((stepBn (pl (ops.take k)).1 q)).l.length d1) (.slice D2 ((stepBn (pl (ops.take k)).1 q)).h.length d2) (.slice D3 ((stepBn (pl (ops.take k)).1 q)).w.length d3) (.slice D4 ((stepBn (pl (ops.take k)).1 q)).f.length d4) (.int .i64 ((stepBn (pl (ops.take k)).1 q)).n)) (fun y9 hy9 hm9 => by have := List.mem_singleton.1 hm9; have := HL.out y9 hy9; have := HR.out.lt y9 hy9; omega), fun y9 hy9 => by have := HL.out y9 hy9; omega, KB.out.set5 (.slice D1 ((stepBn (pl (ops.take k)).1 q)).l.length d1) (.slice D2 ((stepBn (pl (ops.take k)).1 q)).h.length d2) (.slice D3 ((stepBn (pl (ops.take k)).1 q)).w.length d3) (.slice D4 ((stepBn (pl (ops.take k)).1 q)).f.length d4) (.int .i64 ((stepBn (pl (ops.take k)).1 q)).n), by omega, TS.out⟩
        case rest =>
          obtain ⟨D1, d1, D2, d2, D3, d3, D4, d4, bs7, g7, rfl, rfl, hO7, hl7, k7, hg7, hbz⟩ := hcut
          rename World => wz
          clear p0 p1 p2 p3 p4 p5 p6 p7
          have hsz7 := hbz.size
          have kbz := kb.below hbz kb.lt
          have krz := kr.below hbz kr.lt
          have hOz := ownsRow_below hO1 hbz
          have hBz := hB.trans (hbz.mono hB.size)
          have hlt1 := hO1.lt
          have hO8 := hO7.only (only_set5 wz (w.heap.size + 1) (.slice D1 ((stepBn (pl (ops.take k)).1 q)).l.length d1) (.slice D2 ((stepBn (pl (ops.take k)).1 q)).h.length d2) (.slice D3 ((stepBn (pl (ops.take k)).1 q)).w.length d3) (.slice D4 ((stepBn (pl (ops.take k)).1 q)).f.length d4) (.int .i64 ((stepBn (pl (ops.take k)).1 q)).n)) (fun y hy hm => by have := hl7 y hy; have := List.mem_singleton.1 hm; omega)
          have k8 := kbz.set5 (.slice D1 ((stepBn (pl (ops.take k)).1 q)).l.length d1) (.slice D2 ((stepBn (pl (ops.take k)).1 q)).h.length d2) (.slice D3 ((stepBn (pl (ops.take k)).1 q)).w.length d3) (.slice D4 ((stepBn (pl (ops.take k)).1 q)).f.length d4) (.int .i64 ((stepBn (pl (ops.take k)).1 q)).n)
          have r8 := krz.only (only_set5 wz (w.heap.size + 1) (.slice D1 ((stepBn (pl (ops.take k)).1 q)).l.length d1) (.slice D2 ((stepBn (pl (ops.take k)).1 q)).h.length d2) (.slice D3 ((stepBn (pl (ops.take k)).1 q)).w.length d3) (.slice D4 ((stepBn (pl (ops.take k)).1 q)).f.length d4) (.int .i64 ((stepBn (pl (ops.take k)).1 q)).n)) (by simp)
          have hr8 := owns_set5 hOz (g := w.heap.size + 1) (fun e9 => by have := hlt1 _ e9; omega) (.slice D1 ((stepBn (pl (ops.take k)).1 q)).l.length d1) (.slice D2 ((stepBn (pl (ops.take k)).1 q)).h.length d2) (.slice D3 ((stepBn (pl (ops.take k)).1 q)).w.length d3) (.slice D4 ((stepBn (pl (ops.take k)).1 q)).f.length d4) (.int .i64 ((stepBn (pl (ops.take k)).1 q)).n)
          have hB8 := below_set5 hBz (g := w.heap.size + 1) (by omega) (.slice D1 ((stepBn (pl (ops.take k)).1 q)).l.length d1) (.slice D2 ((stepBn (pl (ops.take k)).1 q)).h.length d2) (.slice D3 ((stepBn (pl (ops.take k)).1 q)).w.length d3) (.slice D4 ((stepBn (pl (ops.take k)).1 q)).f.length d4) (.int .i64 ((stepBn (pl (ops.take k)).1 q)).n)
          obtain ⟨⟨y0, y1, y2, y3, y4⟩, -⟩ := five k7
          obtain ⟨⟨-, -, -, -, -⟩, z0, z1, z2, z3, z4⟩ := five kbz
          obtain ⟨⟨v0, v1, v2, v3, v4⟩, -⟩ := five kbz
          have hgn : w.heap.size + 1 ≠ g7 := by omega
          have hkz := kbz.lt
          have hk7 := k7.lt
          clear kb kr hO1 hB kbz krz hOz hBz hbz k7 hO7
          go_upto_region 10 with (fail)
          obtain ⟨W8, hW8⟩ : ∃ W8, W8 = ((((wz.setCell ⟨w.heap.size + 1, 0, none⟩ (.slice D1 ((stepBn (pl (ops.take k)).1 q)).l.length d1)).setCell ⟨w.heap.size + 1, 1, none⟩ (.slice D2 ((stepBn (pl (ops.take k)).1 q)).h.length d2)).setCell ⟨w.heap.size + 1, 2, none⟩ (.slice D3 ((stepBn (pl (ops.take k)).1 q)).w.length d3)).setCell ⟨w.heap.size + 1, 3, none⟩ (.slice D4 ((stepBn (pl (ops.take k)).1 q)).f.length d4)).setCell ⟨w.heap.size + 1, 4, none⟩ (.int .i64 ((stepBn (pl (ops.take k)).1 q)).n) := ⟨_, rfl⟩
          have hs8 : W8.heap.size ≤ wz.heap.size ∧ wz.heap.size ≤ W8.heap.size := by rw [hW8]; simp [World.setCell]
          rw [← hW8] at hO8 k8 r8 hr8 hB8
          rw [← hW8]
          have HF := Lib.hid (And.intro hO8 (And.intro k8 r8))
          clear hW8 y0 y1 y2 y3 y4 z0 z1 z2 z3 z4 v0 v1 v2 v3 v4 hO8 k8 r8
          go_wp2_with (at_builtin; refine wpList_append_own_at _ rfl _ _ 22 rfl (w.heap.size + 2) 3 i (.int .i64 0) 1 8 Try.underlying22 hi hiz0 hiz1 hiz2 rfl (by decide) _ _ _ rfl (hr8.alloc _) ⟨W8.heap.size, 0, none⟩ 1 1 [.int .i64 (stepR (pl (ops.take k)).1 q)] rfl rfl (new_cells _ _ _) (by simp [Value.oneCell']) (by unfold maxLen; omega) (by omega) (by simp; omega) ?_; intro v' w9 hown' hgrow _ hloc; have hB9 := (hB8.alloc hB8.size (.cells #[.int .i64 (stepR (pl (ops.take k)).1 q)] 3)).grown hgrow (by simp; omega) (fun j hj => by have := (hr8.lt j hj).1; omega))
          have hal := (Below.refl W8.heap.size W8).alloc (Nat.le_refl _) (.cells #[.int .i64 (stepR (pl (ops.take k)).1 q)] 3)
          obtain ⟨hO8, k8, r8⟩ := HF.out
          have hO9 : OwnBn w9 (.slice D1 ((stepBn (pl (ops.take k)).1 q)).l.length d1) (.slice D2 ((stepBn (pl (ops.take k)).1 q)).h.length d2) (.slice D3 ((stepBn (pl (ops.take k)).1 q)).w.length d3) (.slice D4 ((stepBn (pl (ops.take k)).1 q)).f.length d4) (stepBn (pl (ops.take k)).1 q) bs7 := (hO8.below hal).of_blocks hgrow.size (fun y hy => hgrow.block y (by have := hO8.lt y hy; simp; omega) (fun e9 => by have e8 : (Value.slice T k tc).ownBlock = some y := e9.symm; have := hl7 y hy; have := (hlt1 y e8).2; omega))
          have k9 := (k8.alloc (.cells #[.int .i64 (stepR (pl (ops.take k)).1 q)] 3)).grown hgrow (fun j hj => by have := (hr8.lt j hj).1; omega)
          have r9 := (r8.alloc (.cells #[.int .i64 (stepR (pl (ops.take k)).1 q)] 3)).grown hgrow (fun j hj => by have := (hr8.lt j hj).1; omega)
          have hs9 := hgrow.size
          simp only [World.size_alloc] at hs9
          refine ⟨⟨k + 1, .slice D1 ((stepBn (pl (ops.take k)).1 q)).l.length d1, .slice D2 ((stepBn (pl (ops.take k)).1 q)).h.length d2, .slice D3 ((stepBn (pl (ops.take k)).1 q)).w.length d3, .slice D4 ((stepBn (pl (ops.take k)).1 q)).f.length d4, bs7, by omega, by go_num, ?_, ?_, fun y hy => by have := hl7 y hy; omega, ?_, fun y hy e9 => ?_, hB9, r9, by omega⟩, by simp [intOf]; omega⟩
          · rw [pl_snoc HQ.out]
            exact k9
          · rw [pl_snoc HQ.out]
            exact Lib.hid hO9
          · rw [pl_snoc HQ.out]
            simpa [ints] using hown'
          · rcases hloc with h9 | h9
            · rw [h9] at e9
              have := (hlt1 y e9).2
              have := hl7 y hy
              omega
            · rw [h9] at e9
              have e8 := Option.some.inj e9
              have := hO8.lt y hy
              simp at e8
              omega
      · obtain rfl : k = ops.length := by omega
        rw [List.take_length] at HOB kb hO1
        have HP : Hid (playB ops = (pl ops).1 ∧ playR ops = (pl ops).2) := Lib.hid (by unfold playB playR; rw [if_neg HNB.out, if_neg HNB.out]; exact ⟨rfl, rfl⟩)
        obtain ⟨⟨t0, t1, t2, t3, t4⟩, -⟩ := five kb
        obtain ⟨⟨f0, f1, f2, f3, f4⟩, g0, g1, g2, g3, g4⟩ := five kr
        have HO1 := Lib.hid hO1
        clear hO1
        go_wp2_with fail
        have P := Lib.hid (And.intro kb kr)
        have qF := kr.set5 (.slice A1 (pl ops).1.l.length c1) (.slice A2 (pl ops).1.h.length c2') (.slice A3 (pl ops).1.w.length c3) (.slice A4 (pl ops).1.f.length c4) (.int .i64 (pl ops).1.n)
        obtain ⟨⟨zz0, zz1, zz2, zz3, zz4⟩, -⟩ := five qF
        refine bodyPost_ret (v := .tuple #[.agg #[.slice A1 (pl ops).1.l.length c1, .slice A2 (pl ops).1.h.length c2', .slice A3 (pl ops).1.w.length c3, .slice A4 (pl ops).1.f.length c4, .int .i64 (pl ops).1.n], .slice T ops.length tc]) (by simp [results, Try.results18, go_sem, zz0, zz1, zz2, zz3, zz4]) rfl ?_
        rw [HP.out.1, HP.out.2]
        obtain ⟨ds, hds, hdl⟩ := own_of_typed HO1.out
        have hdd : ∀ y ∈ ds, w.heap.size + 2 ≤ y := fun y hy => (HO1.out.lt y (hdl y hy)).1
        refine ⟨_, _, _, _, bs, _, ds, rfl, HOB.out.only (only_set5 wr w.heap.size _ _ _ _ _) (fun y hy hm => by have := hbs y hy; have := List.mem_singleton.1 hm; omega), ?_, fun y hy => by have := hbs y hy; omega, fun y hy => by have := hdd y hy; omega, fun y hy hm => hne y hy (hdl y hm), below_set5 hB (Nat.le_refl _) _ _ _ _ _⟩
        have hds2 := hds.only (only_set5 wr w.heap.size (.slice A1 (pl ops).1.l.length c1) (.slice A2 (pl ops).1.h.length c2') (.slice A3 (pl ops).1.w.length c3) (.slice A4 (pl ops).1.f.length c4) (.int .i64 (pl ops).1.n)) (fun y hy hm => by have := hdd y hy; have := List.mem_singleton.1 hm; omega)
        rw [pl_len]
        exact hds2
end Go.Proofs.Ytiamkgkhamnaeaa
