/- Contract of spec.RunMoves. Condition: the program and the moves can be read; the number of cells is a 64-bit integer. -/
import Derived.Test.YtiflooopfpcelaaGreatC26
import Derived.Test.YtiflooopfpcelaaGreatC21
import Derived.Test.YtiflooopfpcelaaGreatC10
namespace Go.Proofs.YtiflooopfpcelaaGreat
set_option maxRecDepth 20000
set_option linter.unusedSimpArgs false
set_option linter.unusedVariables false
open Go.ChangeShapes Go.WideShapes Go.ChangeAt Go.RowKit
set_option linter.unusedVariables false
set_option maxHeartbeats 6400000 in
theorem spec_RunMoves (pv uv : Value) (p : Pr) (ms : List Mv) (w : World) (h : RdSS w pv p.x) (hv : Rd w uv 2 ms.length (mvCs ms)) (hw : (Lit.int .i64 p.c).wf = true) :
    Calls Tryz.prog 22 #[.agg #[.int .i64 p.c, pv], uv] w (RetMaI (rmM p ms) (rmN p ms) w) := by
  obtain ⟨vsp, ⟨Ap, cp, rfl, -, hnp, hcp, -⟩, -⟩ := id h
  obtain ⟨Av, cv, rfl, -, hnv, hcv, hrv⟩ := id hv
  unfold maxLen at hcp hcv
  have kp := (Bk.new w #[.int .i64 p.c, .slice Ap p.x.length cp] 43).alloc (.cells #[.slice none 0 0, .slice none 0 0] 38)
  have kr := Bk.new (w.alloc (.cells #[.int .i64 p.c, .slice Ap p.x.length cp] 43)) #[.slice none 0 0, .slice none 0 0] 38
  have hB0 := ((Below.refl w.heap.size w).alloc (Nat.le_refl _) (.cells #[.int .i64 p.c, .slice Ap p.x.length cp] 43)).alloc (by simp) (.cells #[.slice none 0 0, .slice none 0 0] 38)
  obtain ⟨W0, hW0⟩ : ∃ W0, W0 = (w.alloc (.cells #[.int .i64 p.c, .slice Ap p.x.length cp] 43)).alloc (.cells #[.slice none 0 0, .slice none 0 0] 38) := ⟨_, rfl⟩
  rw [← hW0] at kp kr hB0
  simp only [World.size_alloc] at kr
  have HW := Lib.hid hW0
  have HH := Lib.hid h
  have HV := Lib.hid hv
  have HRV := Lib.hid hrv
  have HB0 := Lib.hid hB0
  obtain ⟨p0, -⟩ := kp.at_ 0 (x := .int .i64 p.c) rfl
  obtain ⟨p1, -⟩ := kp.at_ 1 (x := .slice Ap p.x.length cp) rfl
  have hr0 := kr.lt
  clear hW0 hB0 h hv hrv
  go_enter Tryz.func22, Tryz.ntmps22
  go_wp2_with fail
  rw [← HW.out]
  try go_wp2_with fail
  refine (spec_Start _ p _ (HH.out.below HB0.out)).mono ?_
  rintro e w1 ⟨mv1, tv1, bs1, rfl, ho1, hlo1, hb1⟩
  obtain ⟨A1, c1, B1, d1, rfl, rfl⟩ := ho1.slices
  have kp2 := (kp.below hb1 kp.lt).alloc (.cells #[.slice A1 (startF p).mem.length c1, .slice B1 (startF p).ths.length d1] 38)
  have kr2 := (kr.below hb1 kr.lt).alloc (.cells #[.slice A1 (startF p).mem.length c1, .slice B1 (startF p).ths.length d1] 38)
  have km2 := Bk.new w1 #[.slice A1 (startF p).mem.length c1, .slice B1 (startF p).ths.length d1] 38
  have hB2 := (HB0.out.trans (hb1.mono HB0.out.size)).alloc (HB0.out.trans (hb1.mono HB0.out.size)).size (.cells #[.slice A1 (startF p).mem.length c1, .slice B1 (startF p).ths.length d1] 38)
  have ho2 := ho1.below ((Below.refl _ _).alloc (Nat.le_refl _) (.cells #[.slice A1 (startF p).mem.length c1, .slice B1 (startF p).ths.length d1] 38))
  have hi1 := ho1.lt
  have hs1 := hb1.size
  have hbs2 : ∀ b ∈ bs1, w.heap.size + 1 < b ∧ b ≠ w1.heap.size := fun b hb => by have := hlo1 b hb; have := hi1 b hb; omega
  have HB2 := Lib.hid hB2
  have HO2 := Lib.hid (And.intro ho2 hbs2)
  clear kp kr hb1 ho1 hB2 ho2 hbs2 hlo1 hi1 p0 p1
  cases hok : progOkF p
  · have HZ : Hid (rmM p ms = ⟨[], []⟩ ∧ rmN p ms = 0) := Lib.hid ⟨by simp [rmM, rmB, hok], by simp [rmN, rmB, hok]⟩
    clear hok
    obtain ⟨q0, e0⟩ := kr2.at_ 0 (x := .slice none 0 0) rfl
    obtain ⟨q1, e1⟩ := kr2.at_ 1 (x := .slice none 0 0) rfl
    have kf := (kr2.set_ 0 (.slice none 0 0)).set_ 1 (.slice none 0 0)
    obtain ⟨r0, -⟩ := kf.at_ 0 (x := .slice none 0 0) rfl
    obtain ⟨r1, -⟩ := kf.at_ 1 (x := .slice none 0 0) rfl
    have HE := Lib.hid ((HB2.out.setCell (p := ⟨w.heap.size + 1, 0, none⟩) (Nat.le_succ _) (.slice none 0 0)).setCell (p := ⟨w.heap.size + 1, 1, none⟩) (Nat.le_succ _) (.slice none 0 0))
    clear kf
    go_wp2_with fail
    exact bodyPost_ret (v := .tuple #[.agg #[.slice none 0 0, .slice none 0 0], .int .i64 0]) (by simp [results, Tryz.results22, go_sem, r0, r1]) rfl (by rw [HZ.out.1, HZ.out.2]; exact ⟨_, _, [], rfl, OwnMa.zero _, by simp, HE.out⟩)
  · have HOK := Lib.hid hok
    clear hok
    by_cases hlen : (300 : Int) < ms.length
    · have HZ : Hid (rmM p ms = ⟨[], []⟩ ∧ rmN p ms = 0) := Lib.hid (by
        have : ¬ ms.length ≤ 300 := by omega
        exact ⟨by simp [rmM, rmB, this], by simp [rmN, rmB, this]⟩)
      obtain ⟨q0, e0⟩ := kr2.at_ 0 (x := .slice none 0 0) rfl
      obtain ⟨q1, e1⟩ := kr2.at_ 1 (x := .slice none 0 0) rfl
      have kf := (kr2.set_ 0 (.slice none 0 0)).set_ 1 (.slice none 0 0)
      obtain ⟨r0, -⟩ := kf.at_ 0 (x := .slice none 0 0) rfl
      obtain ⟨r1, -⟩ := kf.at_ 1 (x := .slice none 0 0) rfl
      have HE := Lib.hid ((HB2.out.setCell (p := ⟨w.heap.size + 1, 0, none⟩) (Nat.le_succ _) (.slice none 0 0)).setCell (p := ⟨w.heap.size + 1, 1, none⟩) (Nat.le_succ _) (.slice none 0 0))
      clear kf
      go_wp2_with fail
      exact bodyPost_ret (v := .tuple #[.agg #[.slice none 0 0, .slice none 0 0], .int .i64 0]) (by simp [results, Tryz.results22, go_sem, r0, r1]) rfl (by rw [HZ.out.1, HZ.out.2]; exact ⟨_, _, [], rfl, OwnMa.zero _, by simp, HE.out⟩)
    · have HZ : Hid (rmM p ms = (rmAt p ms).1 ∧ rmN p ms = (rmAt p ms).2) := Lib.hid (by
        have : ms.length ≤ 300 := by omega
        exact ⟨by simp [rmM, rmB, this, HOK.out], by simp [rmN, rmB, this, HOK.out]⟩)
      go_wp2_with fail
      go_loopw [8, 9] (fun n i wr => ∃ (k : Nat) (M : Ma) (N : Int) (A B : Option Addr) (c d : Nat) (bs : List Nat), k ≤ ms.length ∧ i = .int .i64 k ∧ n = .int .i64 N ∧ 0 ≤ N ∧ N ≤ k ∧ Hid (rmAt p (ms.take k) = (M, N)) ∧ Bk wr w1.heap.size #[.slice A M.mem.length c, .slice B M.ths.length d] 38 ∧
        OwnMa wr (.slice A M.mem.length c) (.slice B M.ths.length d) M bs ∧ (∀ b ∈ bs, w.heap.size + 1 < b ∧ b ≠ w1.heap.size) ∧ Bk wr w.heap.size #[.int .i64 p.c, .slice Ap p.x.length cp] 43 ∧ Bk wr (w.heap.size + 1) #[.slice none 0 0, .slice none 0 0] 38 ∧ Below w.heap.size w wr) (fun _ i _ => ms.length - (intOf i).toNat)
      case atStart => exact ⟨0, startF p, 0, A1, B1, c1, d1, bs1, Nat.zero_le _, rfl, rfl, Int.le_refl _, Int.le_refl _, Lib.hid (by simp [rmAt]), km2, HO2.out.1, HO2.out.2, kp2, kr2, HB2.out⟩
      case round =>
        obtain ⟨k, M, N, A, B, c, d, bs, hk, rfl, rfl, hN0, hN1, HM, km, hO, hbs, kp, kr, hB⟩ := hrel
        clear km2 HO2 kp2 kr2 HB2
        have hlk : w1.heap.size < wr.heap.size := km.lt
        obtain ⟨m0, f0⟩ := km.at_ 0 (x := .slice A M.mem.length c) rfl
        obtain ⟨m1, f1⟩ := km.at_ 1 (x := .slice B M.ths.length d) rfl
        obtain ⟨p0, -⟩ := kp.at_ 0 (x := .int .i64 p.c) rfl
        obtain ⟨p1, -⟩ := kp.at_ 1 (x := .slice Ap p.x.length cp) rfl
        by_cases hlt : k < ms.length
        · obtain ⟨b, o, rfl, hbl, hcell⟩ := HRV.out (by omega)
          obtain ⟨x, HX, x0, x1⟩ := mv_at hcell hlt hB hbl
          have hok : machOk p M = true := by have := rmAt_ok (ms.take k) HOK.out; rw [HM.out] at this; exact this
          have htot := machOk_tot hok
          have hpl := progOk_len HOK.out
          have hwr : IntKind.i64.wrap ((p.x.length : Int) - 1) = (p.x.length : Int) - 1 := IntWalk.i64_in _ (by omega)
          have lb : b < wr.heap.size := Nat.lt_of_lt_of_le hbl hB.size
          have hN2 : IntKind.i64.wrap (N + 1) = N + 1 := IntWalk.i64_in _ (by omega)
          have hk' : (k : Int) < ms.length := by omega
          have Q0 := Past.cell kp.lt p0
          have Q1 := Past.cell kp.lt p1
          have Q2 := Past.cell km.lt m0
          have Q3 := Past.cell km.lt m1
          have Q4 := Past.cell lb x0
          have Q5 := Past.cell lb x1
          have HS := Lib.hid (rmAt_take (p := p) HX.out)
          obtain ⟨vst, hmv⟩ : ∃ vst, vst = x.t := ⟨_, rfl⟩
          clear hcell p0 p1 m0 m1 f0 f1 x0 x1
          cases hin2 : inB x.t 0 (p.x.length - 1)
          · have HI : Hid (∀ W : World, Calls Tryz.prog 53 #[.int .i64 x.t, .int .i64 0, .int .i64 (p.x.length - 1)] W fun e w' => e = .returned (.bool false) ∧ Below W.heap.size W w') := Lib.hid fun W => by have hq := toB (l01In x.t 0 (p.x.length - 1) W); rw [hin2] at hq; exact hq
            have HT : Hid (rmAt p (ms.take (k + 1)) = (M, N)) := Lib.hid (by rw [HS.out, HM.out]; simp [rmS, canMv, hin2])
            clear hin2 hmv
            go_wp2_with fail
            refine wp_region_past (by kernel_rfl) (by kernel_rfl) ?_
            repeat (go_big_quiet_step (first | (go_at_call 53; exact Calls.past_of (HI.out _))))
            refine wpQuiet_nil ?_
            intro _ hw'
            obtain ⟨pq, rfl⟩ := hw'
            have HF := Lib.hid (And.intro (kp.below pq.hb kp.lt) (And.intro (kr.below pq.hb kr.lt) (And.intro (km.below pq.hb km.lt) (And.intro (hO.below pq.hb) (hB.trans (pq.hb.mono hB.size))))))
            clear Q0 Q1 Q2 Q3 Q4 Q5 hO kp kr km hB
            go_wp2_with fail
            obtain ⟨kp5, kr5, km5, hO5, hB5⟩ := HF.out
            exact ⟨⟨k + 1, M, N, A, B, c, d, bs, by omega, by go_num, rfl, hN0, by omega, HT, km5, hO5, hbs, kp5, kr5, hB5⟩, by simp [intOf]; omega⟩
          · have HI : Hid (∀ W : World, Calls Tryz.prog 53 #[.int .i64 x.t, .int .i64 0, .int .i64 (p.x.length - 1)] W fun e w' => e = .returned (.bool true) ∧ Below W.heap.size W w') := Lib.hid fun W => by have hq := toB (l01In x.t 0 (p.x.length - 1) W); rw [hin2] at hq; exact hq
            have hib := inB_true hin2
            obtain ⟨j, hj⟩ : ∃ j : Nat, x.t = j := ⟨x.t.toNat, by omega⟩
            obtain ⟨-, -, -, htl, -⟩ := machOk_parts hok
            obtain ⟨t, code, hW⟩ := well_of hok (k := j) (by omega)
            have hcan : canMv p M x = canT x.d t code := by
              unfold canMv
              rw [hok, hin2]
              have e : x = ⟨j, x.d⟩ := by rw [← hj]
              rw [e, hW.canAt]
              rfl
            have hCC := fun q : Past wr => l04Can _ _ _ p M j x.d t code q.v (HH.out.below (hB.trans (q.hb.mono hB.size))) (hO.rd.below q.hb) hW
            rw [← hj, ← hcan] at hCC
            have HIN := Lib.hid hin2
            clear hin2 hmv hib htl hW hcan hj
            cases hcm : canMv p M x
            · have HC := Lib.hid fun q : Past wr => by have hq := hCC q; rw [hcm] at hq; exact hq
              have HT : Hid (rmAt p (ms.take (k + 1)) = (M, N)) := Lib.hid (by rw [HS.out, HM.out]; simp [rmS, hcm])
              clear hcm hCC
              go_wp2_with fail
              refine wp_region_past (by kernel_rfl) (by kernel_rfl) ?_
              repeat (go_big_quiet_step (first | (go_at_call 53; exact Calls.past_of (HI.out _)) | (go_at_call 60; exact Calls.past_of (HC.out _))))
              refine wpQuiet_nil ?_
              intro _ hw'
              obtain ⟨pq, rfl⟩ := hw'
              have HF := Lib.hid (And.intro (kp.below pq.hb kp.lt) (And.intro (kr.below pq.hb kr.lt) (And.intro (km.below pq.hb km.lt) (And.intro (hO.below pq.hb) (hB.trans (pq.hb.mono hB.size))))))
              clear Q0 Q1 Q2 Q3 Q4 Q5 hO kp kr km hB
              go_wp2_with fail
              obtain ⟨kp5, kr5, km5, hO5, hB5⟩ := HF.out
              exact ⟨⟨k + 1, M, N, A, B, c, d, bs, by omega, by go_num, rfl, hN0, by omega, HT, km5, hO5, hbs, kp5, kr5, hB5⟩, by simp [intOf]; omega⟩
            · have HC := Lib.hid fun q : Past wr => by have hq := hCC q; rw [hcm] at hq; exact hq
              have HCM := Lib.hid hcm
              have HT : Hid (rmAt p (ms.take (k + 1)) = (doAt p M x, N + 1)) := Lib.hid (by rw [HS.out, HM.out]; simp [rmS, hcm])
              clear hcm hCC
              go_wp2_with fail
              refine wp_region_past (by kernel_rfl) (by kernel_rfl) ?_
              repeat (go_big_quiet_step (first | (go_at_call 53; exact Calls.past_of (HI.out _)) | (go_at_call 60; exact Calls.past_of (HC.out _))))
              refine wpQuiet_nil ?_
              intro _ hw'
              obtain ⟨pq, rfl⟩ := hw'
              obtain ⟨WW, hWW⟩ : ∃ WW, WW = pq.v := ⟨_, rfl⟩
              have hbq := pq.hb
              rw [← hWW] at hbq
              have R0 := fun q : Past WW => Past.cell (Nat.lt_of_lt_of_le kp.lt hbq.size) (by rw [hWW]; exact Q0 pq) q
              have R1 := fun q : Past WW => Past.cell (Nat.lt_of_lt_of_le kp.lt hbq.size) (by rw [hWW]; exact Q1 pq) q
              have R2 := fun q : Past WW => Past.cell (Nat.lt_of_lt_of_le km.lt hbq.size) (by rw [hWW]; exact Q2 pq) q
              have R3 := fun q : Past WW => Past.cell (Nat.lt_of_lt_of_le km.lt hbq.size) (by rw [hWW]; exact Q3 pq) q
              have R4 := fun q : Past WW => Past.cell (Nat.lt_of_lt_of_le lb hbq.size) (by rw [hWW]; exact Q4 pq) q
              have R5 := fun q : Past WW => Past.cell (Nat.lt_of_lt_of_le lb hbq.size) (by rw [hWW]; exact Q5 pq) q
              have kp3 := kp.below hbq kp.lt
              have kr3 := kr.below hbq kr.lt
              have km3 := km.below hbq km.lt
              have hB3 := hB.trans (hbq.mono hB.size)
              have hO3 := hO.below hbq
              have HD := Lib.hid (spec_l04Do _ _ _ p M x WW.drew (HH.out.below (hB3.trans ((Below.refl _ _).drew.mono hB3.size))) (hO3.rd.below (Below.refl _ _).drew) HCM.out (by omega))
              have HWW := Lib.hid hWW
              have HK3 := Lib.hid (And.intro kp3 (And.intro kr3 (And.intro km3 hB3)))
              have hs3 := hbq.size
              clear Q0 Q1 Q2 Q3 Q4 Q5 hO kp kr km hB kp3 kr3 km3 hB3 hO3 hbq hWW
              go_wp2_with fail
              rw [← HWW.out]
              refine wp_region_two 6 6 (fun w' => ∃ q : Past WW, w' = q.v) (fun _ => True) (by kernel_rfl) ?_
              refine wpAnyX_pass (C := (fun w' => ∃ q : Past WW, w' = q.v)) (some false) [true, true, true, true, true, true] rfl (by kernel_rfl) (fun _ _ t _ _ h => by cases t <;> exact h) ⟨fun _ => ⟨⟨WW.drew, (Below.refl _ _).drew⟩, rfl⟩, fun _ => trivial⟩ ?_
              simp only [keepOps]
              repeat (go_big_quiet_step (fail))
              refine wpQuiet_nil ?_
              clear R0 R1 R2 R3 R4 R5
              refine wpAnyX_one 6 rfl (by kernel_rfl) (by kernel_rfl) ?_
              go_wp2_with fail
              refine HD.out.mono ?_
              rintro e w5 ⟨mv5, tv5, bs5, rfl, ho5, hlo5, hb5⟩
              obtain ⟨A5, c5, B5, d5, rfl, rfl⟩ := ho5.slices
              obtain ⟨kp3, kr3, km3, hB3⟩ := HK3.out
              have hb5' := (Below.refl WW.heap.size WW).drew.trans hb5
              have hlo5' : ∀ b ∈ bs5, WW.heap.size ≤ b := hlo5
              have kp5 := kp3.below hb5' kp3.lt
              have kr5 := kr3.below hb5' kr3.lt
              have km5 := km3.below hb5' km3.lt
              have hB5 := hB3.trans (hb5'.mono hB3.size)
              obtain ⟨y0, g0⟩ := km5.at_ 0 (x := .slice A M.mem.length c) rfl
              obtain ⟨y1, g1⟩ := km5.at_ 1 (x := .slice B M.ths.length d) rfl
              have kmn := (km5.set_ 0 (.slice A5 (doAt p M x).mem.length c5)).set_ 1 (.slice B5 (doAt p M x).ths.length d5)
              have kpn := (kp5.far (p := ⟨w1.heap.size, 0, none⟩) (by show w.heap.size ≠ w1.heap.size; omega) (.slice A5 (doAt p M x).mem.length c5)).far (p := ⟨w1.heap.size, 1, none⟩) (by show w.heap.size ≠ w1.heap.size; omega) (.slice B5 (doAt p M x).ths.length d5)
              have krn := (kr5.far (p := ⟨w1.heap.size, 0, none⟩) (by show w.heap.size + 1 ≠ w1.heap.size; omega) (.slice A5 (doAt p M x).mem.length c5)).far (p := ⟨w1.heap.size, 1, none⟩) (by show w.heap.size + 1 ≠ w1.heap.size; omega) (.slice B5 (doAt p M x).ths.length d5)
              have hOn := (ho5.far (b := w1.heap.size) (k := 0) (u := .slice A5 (doAt p M x).mem.length c5) fun b hb => by have := hlo5' b hb; omega).far (b := w1.heap.size) (k := 1) (u := .slice B5 (doAt p M x).ths.length d5) fun b hb => by have := hlo5' b hb; omega
              have hBn := (hB5.setCell (p := ⟨w1.heap.size, 0, none⟩) (by show w.heap.size ≤ w1.heap.size; omega) (.slice A5 (doAt p M x).mem.length c5)).setCell (p := ⟨w1.heap.size, 1, none⟩) (by show w.heap.size ≤ w1.heap.size; omega) (.slice B5 (doAt p M x).ths.length d5)
              have HK5 := Lib.hid (And.intro kpn (And.intro krn (And.intro kmn (And.intro hOn hBn))))
              have hbn : ∀ b ∈ bs5, w.heap.size + 1 < b ∧ b ≠ w1.heap.size := fun b hb => by have := hlo5' b hb; omega
              clear kp5 kr5 km5 hB5 kp3 kr3 km3 hB3 HD kmn kpn krn hOn hBn ho5 hb5 hb5' hlo5
              go_wp2_with fail
              refine ⟨⟨fun h => absurd (show true = false from h) (by decide), fun _ => trivial⟩, ?_⟩
              refine wpAnyX_one 7 rfl (by kernel_rfl) (by kernel_rfl) ?_
              go_wp2_with fail
              refine ⟨⟨fun h => absurd (show true = false from h) (by decide), fun _ => trivial⟩, ?_⟩
              refine wpAnyX_done (by kernel_rfl) ?_
              go_wp2_with fail
              obtain ⟨kp5, kr5, km5, hO5, hB5⟩ := HK5.out
              exact ⟨⟨k + 1, doAt p M x, N + 1, A5, B5, c5, d5, bs5, by omega, by go_num, by go_num, by omega, by omega, HT, km5, hO5, hbn, kp5, kr5, hB5⟩, by simp [intOf]; omega⟩
        · obtain rfl : k = ms.length := by omega
          have HT := HM.out
          rw [List.take_length] at HT
          have HT := Lib.hid HT
          obtain ⟨q0, e0⟩ := kr.at_ 0 (x := .slice none 0 0) rfl
          obtain ⟨q1, e1⟩ := kr.at_ 1 (x := .slice none 0 0) rfl
          have kf := (kr.set_ 0 (.slice A M.mem.length c)).set_ 1 (.slice B M.ths.length d)
          obtain ⟨r0, -⟩ := kf.at_ 0 (x := .slice A M.mem.length c) rfl
          obtain ⟨r1, -⟩ := kf.at_ 1 (x := .slice B M.ths.length d) rfl
          have hof := (hO.far (b := w.heap.size + 1) (k := 0) (u := .slice A M.mem.length c) fun b hb => by have := hbs b hb; omega).far (b := w.heap.size + 1) (k := 1) (u := .slice B M.ths.length d) fun b hb => by have := hbs b hb; omega
          have hBf := (hB.setCell (p := ⟨w.heap.size + 1, 0, none⟩) (Nat.le_succ _) (.slice A M.mem.length c)).setCell (p := ⟨w.heap.size + 1, 1, none⟩) (Nat.le_succ _) (.slice B M.ths.length d)
          have HE := Lib.hid (And.intro hof (And.intro (fun b hb => by have := hbs b hb; omega : ∀ b ∈ bs, w.heap.size ≤ b) hBf))
          clear kf hof hBf
          go_wp2_with fail
          exact bodyPost_ret (v := .tuple #[.agg #[.slice A M.mem.length c, .slice B M.ths.length d], .int .i64 N]) (by simp [results, Tryz.results22, go_sem, r0, r1]) rfl (by rw [HZ.out.1, HZ.out.2, HT.out]; exact ⟨_, _, bs, rfl, HE.out.1, HE.out.2.1, HE.out.2.2⟩)
end Go.Proofs.YtiflooopfpcelaaGreat
