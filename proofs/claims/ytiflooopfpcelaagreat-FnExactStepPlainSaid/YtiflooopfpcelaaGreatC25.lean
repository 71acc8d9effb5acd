/- Contract of spec.StepPlain. Condition: the program and the machine can be read; lengths that a law bounds. -/
import Derived.Test.YtiflooopfpcelaaGreatC24
import Derived.Test.YtiflooopfpcelaaGreatK2
namespace Go.Proofs.YtiflooopfpcelaaGreat
set_option maxRecDepth 20000
set_option linter.unusedSimpArgs false
set_option linter.unusedVariables false
open Go.ChangeShapes Go.WideShapes Go.ChangeAt Go.RowKit
set_option linter.unusedVariables false
set_option maxHeartbeats 6400000 in
theorem spec_StepPlain (pv mv tv : Value) (p : Pr) (M : Ma) (t : Int) (w : World) (h : RdSS w pv p.x) (hm : RdMa w mv tv M) (hsz : totMa M ≤ 16777215) :
    Calls Tryz.prog 19 #[.agg #[.int .i64 p.c, pv], .agg #[mv, tv], .int .i64 t] w (RetMaB (spF p M t) (spB p M t) w) := by
  obtain ⟨A0, c0, B0, d0, rfl, rfl, -, hBd, -, hdc0⟩ := id hm.slices
  have hwr : IntKind.i64.wrap ((M.ths.length : Int) - 1) = (M.ths.length : Int) - 1 := IntWalk.i64_in _ (by omega)
  obtain ⟨vsp, ⟨Ap, cp, rfl, -, hnp, hcp, hrp⟩, hin⟩ := id h
  unfold maxLen at hcp
  have kp1 := ((Bk.new w #[.int .i64 p.c, .slice Ap p.x.length cp] 43).alloc (.cells #[.slice A0 M.mem.length c0, .slice B0 M.ths.length d0] 38)).alloc (.cells #[.slice none 0 0, .slice none 0 0] 38)
  have km1 := (Bk.new (w.alloc (.cells #[.int .i64 p.c, .slice Ap p.x.length cp] 43)) #[.slice A0 M.mem.length c0, .slice B0 M.ths.length d0] 38).alloc (.cells #[.slice none 0 0, .slice none 0 0] 38)
  have kr1 := Bk.new ((w.alloc (.cells #[.int .i64 p.c, .slice Ap p.x.length cp] 43)).alloc (.cells #[.slice A0 M.mem.length c0, .slice B0 M.ths.length d0] 38)) #[.slice none 0 0, .slice none 0 0] 38
  have hB0 := (((Below.refl w.heap.size w).alloc (Nat.le_refl _) (.cells #[.int .i64 p.c, .slice Ap p.x.length cp] 43)).alloc (by simp) (.cells #[.slice A0 M.mem.length c0, .slice B0 M.ths.length d0] 38)).alloc (by simp; omega) (.cells #[.slice none 0 0, .slice none 0 0] 38)
  obtain ⟨W1, hW0⟩ : ∃ W1, W1 = ((w.alloc (.cells #[.int .i64 p.c, .slice Ap p.x.length cp] 43)).alloc (.cells #[.slice A0 M.mem.length c0, .slice B0 M.ths.length d0] 38)).alloc (.cells #[.slice none 0 0, .slice none 0 0] 38) := ⟨_, rfl⟩
  rw [← hW0] at kp1 km1 kr1 hB0
  simp only [World.size_alloc] at km1 kr1
  have HW := Lib.hid hW0
  have HH := Lib.hid h
  have HM := Lib.hid hm
  have HB1 := Lib.hid hB0
  have P6 := Past.cell kp1.lt (kp1.at_ 0 (x := .int .i64 p.c) rfl).1
  have P3 := Past.cell kp1.lt (kp1.at_ 1 (x := .slice Ap p.x.length cp) rfl).1
  have P7 := Past.cell km1.lt (km1.at_ 0 (x := .slice A0 M.mem.length c0) rfl).1
  have P5 := Past.cell km1.lt (km1.at_ 1 (x := .slice B0 M.ths.length d0) rfl).1
  have HCM := Lib.hid fun q : Past W1 => spec_MachineOk _ _ _ p M q.v (HH.out.below (HB1.out.trans (q.hb.mono HB1.out.size))) (HM.out.below (HB1.out.trans (q.hb.mono HB1.out.size)))
  clear hW0 hB0 h hm hin hrp
  go_enter Tryz.func19, Tryz.ntmps19
  go_wp2_with fail
  rw [← HW.out]
  cases hok : machOk p M
  · have HOK := Lib.hid hok
    have HC : Hid (∀ q : Past W1, Calls Tryz.prog 29 #[.agg #[.int .i64 p.c, .slice Ap p.x.length cp], .agg #[.slice A0 M.mem.length c0, .slice B0 M.ths.length d0]] q.v fun e w' => e = .returned (.bool false) ∧ Below q.v.heap.size q.v w') := Lib.hid fun q => by have hq := HCM.out q; rw [HOK.out] at hq; exact hq
    have HSB : Hid (spB p M t = false) := Lib.hid (by simp [spB, hok])
    clear hok HCM
    refine wp_region_past (by kernel_rfl) (by kernel_rfl) ?_
    repeat (go_big_quiet_step (first | (go_at_call 29; exact Calls.past_of (HC.out _))))
    refine wpQuiet_nil ?_
    intro _ hw'
    obtain ⟨pq, rfl⟩ := hw'
    clear P3 P5 P6 P7
    have hBq := HB1.out.trans (pq.hb.mono HB1.out.size)
    have kmq := km1.below pq.hb km1.lt
    have krq := kr1.below pq.hb kr1.lt
    obtain ⟨y0, -⟩ := kmq.at_ 0 (x := .slice A0 M.mem.length c0) rfl
    obtain ⟨y1, -⟩ := kmq.at_ 1 (x := .slice B0 M.ths.length d0) rfl
    have HBq := Lib.hid hBq
    clear hBq kmq
    go_wp2_with fail
    refine (l04Copy _ _ M _ (HM.out.below HBq.out) hsz).mono ?_
    rintro e w2 ⟨mv1, tv1, bs, rfl, hO, hbs, hb2⟩
    obtain ⟨A1, c1, B1, d1, rfl, rfl⟩ := hO.slices
    have kr2 := krq.below hb2 krq.lt
    obtain ⟨q0, u0⟩ := kr2.at_ 0 (x := .slice none 0 0) rfl
    obtain ⟨q1, u1⟩ := kr2.at_ 1 (x := .slice none 0 0) rfl
    have hfar : ∀ b ∈ bs, b ≠ w.heap.size + 1 + 1 := fun b hb => by have := hbs b hb; have := krq.lt; omega
    have HE := Lib.hid (And.intro ((hO.far (k := 0) (u := .slice A1 M.mem.length c1) hfar).far (k := 1) (u := .slice B1 M.ths.length d1) hfar)
      (And.intro (fun b hb => by have := hbs b hb; have := krq.lt; omega : ∀ b ∈ bs, w.heap.size ≤ b) (((HBq.out.trans (hb2.mono HBq.out.size)).setCell (p := ⟨w.heap.size + 1 + 1, 0, none⟩) (by show w.heap.size ≤ w.heap.size + 1 + 1; omega) (.slice A1 M.mem.length c1)).setCell (p := ⟨w.heap.size + 1 + 1, 1, none⟩) (by show w.heap.size ≤ w.heap.size + 1 + 1; omega) (.slice B1 M.ths.length d1))))
    clear hO hbs hb2 kr2 hfar
    go_wp2_with fail
    exact bodyPost_ret (v := .tuple #[.agg #[.slice A1 M.mem.length c1, .slice B1 M.ths.length d1], .bool false]) (by simp [results, Tryz.results19, go_sem, q0, q1, u0, u1]) rfl (by rw [HSB.out, spF_false HSB.out]; exact ⟨_, _, bs, rfl, HE.out.1, HE.out.2.1, HE.out.2.2⟩)
  · have HOK := Lib.hid hok
    have HC : Hid (∀ q : Past W1, Calls Tryz.prog 29 #[.agg #[.int .i64 p.c, .slice Ap p.x.length cp], .agg #[.slice A0 M.mem.length c0, .slice B0 M.ths.length d0]] q.v fun e w' => e = .returned (.bool true) ∧ Below q.v.heap.size q.v w') := Lib.hid fun q => by have hq := HCM.out q; rw [HOK.out] at hq; exact hq
    clear hok HCM
    cases hin2 : inB t 0 (M.ths.length - 1)
    · have HI : Hid (∀ W : World, Calls Tryz.prog 53 #[.int .i64 t, .int .i64 0, .int .i64 (M.ths.length - 1)] W fun e w' => e = .returned (.bool false) ∧ Below W.heap.size W w') := Lib.hid fun W => by have hq := toB (l01In t 0 (M.ths.length - 1) W); rw [hin2] at hq; exact hq
      have HSB : Hid (spB p M t = false) := Lib.hid (by simp [spB, hin2])
      clear hin2
      refine wp_region_past (by kernel_rfl) (by kernel_rfl) ?_
      repeat (go_big_quiet_step (first | (go_at_call 29; exact Calls.past_of (HC.out _)) | (go_at_call 53; exact Calls.past_of (HI.out _))))
      refine wpQuiet_nil ?_
      intro _ hw'
      obtain ⟨pq, rfl⟩ := hw'
      clear P3 P5 P6 P7
      have hBq := HB1.out.trans (pq.hb.mono HB1.out.size)
      have kmq := km1.below pq.hb km1.lt
      have krq := kr1.below pq.hb kr1.lt
      obtain ⟨y0, -⟩ := kmq.at_ 0 (x := .slice A0 M.mem.length c0) rfl
      obtain ⟨y1, -⟩ := kmq.at_ 1 (x := .slice B0 M.ths.length d0) rfl
      have HBq := Lib.hid hBq
      clear hBq kmq
      go_wp2_with fail
      refine (l04Copy _ _ M _ (HM.out.below HBq.out) hsz).mono ?_
      rintro e w2 ⟨mv1, tv1, bs, rfl, hO, hbs, hb2⟩
      obtain ⟨A1, c1, B1, d1, rfl, rfl⟩ := hO.slices
      have kr2 := krq.below hb2 krq.lt
      obtain ⟨q0, u0⟩ := kr2.at_ 0 (x := .slice none 0 0) rfl
      obtain ⟨q1, u1⟩ := kr2.at_ 1 (x := .slice none 0 0) rfl
      have hfar : ∀ b ∈ bs, b ≠ w.heap.size + 1 + 1 := fun b hb => by have := hbs b hb; have := krq.lt; omega
      have HE := Lib.hid (And.intro ((hO.far (k := 0) (u := .slice A1 M.mem.length c1) hfar).far (k := 1) (u := .slice B1 M.ths.length d1) hfar)
        (And.intro (fun b hb => by have := hbs b hb; have := krq.lt; omega : ∀ b ∈ bs, w.heap.size ≤ b) (((HBq.out.trans (hb2.mono HBq.out.size)).setCell (p := ⟨w.heap.size + 1 + 1, 0, none⟩) (by show w.heap.size ≤ w.heap.size + 1 + 1; omega) (.slice A1 M.mem.length c1)).setCell (p := ⟨w.heap.size + 1 + 1, 1, none⟩) (by show w.heap.size ≤ w.heap.size + 1 + 1; omega) (.slice B1 M.ths.length d1))))
      clear hO hbs hb2 kr2 hfar
      go_wp2_with fail
      exact bodyPost_ret (v := .tuple #[.agg #[.slice A1 M.mem.length c1, .slice B1 M.ths.length d1], .bool false]) (by simp [results, Tryz.results19, go_sem, q0, q1, u0, u1]) rfl (by rw [HSB.out, spF_false HSB.out]; exact ⟨_, _, bs, rfl, HE.out.1, HE.out.2.1, HE.out.2.2⟩)
    · have hib := inB_true hin2
      obtain ⟨k, hk⟩ : ∃ k : Nat, t = k := ⟨t.toNat, by omega⟩
      subst hk
      have hkl : k < M.ths.length := by omega
      have HI : Hid (∀ W : World, Calls Tryz.prog 53 #[.int .i64 k, .int .i64 0, .int .i64 (M.ths.length - 1)] W fun e w' => e = .returned (.bool true) ∧ Below W.heap.size W w') := Lib.hid fun W => by have hq := toB (l01In k 0 (M.ths.length - 1) W); rw [hin2] at hq; exact hq
      have HIN2 := Lib.hid hin2
      clear hin2
      obtain ⟨b, o, c, bQ, oQ, d, A9, c9, hpe, hte, hme, hbl, hbQ, hcc, hdc, -, -, -, -, hl1, hl3, hl4, hl5, hEl⟩ := mach_open HH.out HM.out HOK.out
      injection hpe with hpe1 _ hpe3
      injection hte with hte1 _ hte3
      subst hpe1 hpe3 hte1 hte3
      clear hme
      obtain ⟨u, code, cv, av, fv, E⟩ := hEl W1 HB1.out k hkl
      obtain ⟨C, dc, rfl, -, hdc1, hdc2, -⟩ := id E.rc
      unfold maxLen at hdc2
      have HE9 := Lib.hid E
      have P0 := Past.cell (Nat.lt_of_lt_of_le hbQ HB1.out.size) E.c1
      have P4 := Past.cell (Nat.lt_of_lt_of_le hbl HB1.out.size) E.c0
      have hkl' : (k : Int) < M.ths.length := by omega
      have hkl2 : (k : Int) < p.x.length := by omega
      clear E hEl
      by_cases he : u.pc = code.length
      · have e1 : (u.pc == (code.length : Int)) = true := by simp [he]
        have HSB : Hid (spB p M k = false) := Lib.hid (by simp [spB, endT, List.getD_eq_getElem?_getD, HE9.out.well.ht, HE9.out.well.hc, he])
        clear he
        refine wp_region_past (by kernel_rfl) (by kernel_rfl) ?_
        repeat (go_big_quiet_step (first | (go_at_call 29; exact Calls.past_of (HC.out _)) | (go_at_call 53; exact Calls.past_of (HI.out _))))
        refine wpQuiet_nil ?_
        intro _ hw'
        obtain ⟨pq, rfl⟩ := hw'
        clear P0 P3 P4 P5 P6 P7
        have hBq := HB1.out.trans (pq.hb.mono HB1.out.size)
        have kmq := km1.below pq.hb km1.lt
        have krq := kr1.below pq.hb kr1.lt
        obtain ⟨y0, -⟩ := kmq.at_ 0 (x := .slice A0 M.mem.length c0) rfl
        obtain ⟨y1, -⟩ := kmq.at_ 1 (x := .slice (some ⟨bQ, oQ, none⟩) M.ths.length d0) rfl
        have HBq := Lib.hid hBq
        clear hBq kmq
        go_wp2_with fail
        refine (l04Copy _ _ M _ (HM.out.below HBq.out) hsz).mono ?_
        rintro e w2 ⟨mv1, tv1, bs, rfl, hO, hbs, hb2⟩
        obtain ⟨A1, c1, B1, d1, rfl, rfl⟩ := hO.slices
        have kr2 := krq.below hb2 krq.lt
        obtain ⟨q0, u0⟩ := kr2.at_ 0 (x := .slice none 0 0) rfl
        obtain ⟨q1, u1⟩ := kr2.at_ 1 (x := .slice none 0 0) rfl
        have hfar : ∀ b ∈ bs, b ≠ w.heap.size + 1 + 1 := fun b hb => by have := hbs b hb; have := krq.lt; omega
        have HE := Lib.hid (And.intro ((hO.far (k := 0) (u := .slice A1 M.mem.length c1) hfar).far (k := 1) (u := .slice B1 M.ths.length d1) hfar)
          (And.intro (fun b hb => by have := hbs b hb; have := krq.lt; omega : ∀ b ∈ bs, w.heap.size ≤ b) (((HBq.out.trans (hb2.mono HBq.out.size)).setCell (p := ⟨w.heap.size + 1 + 1, 0, none⟩) (by show w.heap.size ≤ w.heap.size + 1 + 1; omega) (.slice A1 M.mem.length c1)).setCell (p := ⟨w.heap.size + 1 + 1, 1, none⟩) (by show w.heap.size ≤ w.heap.size + 1 + 1; omega) (.slice B1 M.ths.length d1))))
        clear hO hbs hb2 kr2 hfar
        go_wp2_with fail
        exact bodyPost_ret (v := .tuple #[.agg #[.slice A1 M.mem.length c1, .slice B1 M.ths.length d1], .bool false]) (by simp [results, Tryz.results19, go_sem, q0, q1, u0, u1]) rfl (by rw [HSB.out, spF_false HSB.out]; exact ⟨_, _, bs, rfl, HE.out.1, HE.out.2.1, HE.out.2.2⟩)
      · have e1 : (u.pc == (code.length : Int)) = false := by simp [he]
        have HNE := Lib.hid he
        have HSB : Hid (spB p M k = true ∧ spF p M k = plM M k u code) := Lib.hid (by
          have h1 : spB p M k = true := by
            unfold spB
            rw [HOK.out, HIN2.out]
            simp [endT, List.getD_eq_getElem?_getD, HE9.out.well.ht, HE9.out.well.hc, he]
          exact ⟨h1, by unfold spF; rw [h1]; simp [List.getD_eq_getElem?_getD, HE9.out.well.ht, HE9.out.well.hc]⟩)
        clear he
        refine wp_region_past (by kernel_rfl) (by kernel_rfl) ?_
        repeat (go_big_quiet_step (first | (go_at_call 29; exact Calls.past_of (HC.out _)) | (go_at_call 53; exact Calls.past_of (HI.out _))))
        refine wpQuiet_nil ?_
        intro _ hw'
        obtain ⟨pq, rfl⟩ := hw'
        have kpq := kp1.below pq.hb kp1.lt
        obtain ⟨p0, -⟩ := kpq.at_ 0 (x := .int .i64 p.c) rfl
        obtain ⟨p1, -⟩ := kpq.at_ 1 (x := .slice (some ⟨b, o, none⟩) p.x.length cp) rfl
        clear P0 P3 P4 P5 P6 P7 kpq
        have hBq := HB1.out.trans (pq.hb.mono HB1.out.size)
        have kmq := km1.below pq.hb km1.lt
        have krq := kr1.below pq.hb kr1.lt
        obtain ⟨y0, -⟩ := kmq.at_ 0 (x := .slice A0 M.mem.length c0) rfl
        obtain ⟨y1, -⟩ := kmq.at_ 1 (x := .slice (some ⟨bQ, oQ, none⟩) M.ths.length d0) rfl
        have HBq := Lib.hid hBq
        clear hBq kmq
        go_wp2_with fail
        refine (l04Plain _ _ _ p M k u code _ (HH.out.below HBq.out) (HM.out.below HBq.out) HOK.out HE9.out.well.ht HE9.out.well.hc HNE.out hsz).mono ?_
        rintro e w2 ⟨mv1, tv1, bs, rfl, hO, hbs, hb2⟩
        obtain ⟨A1, c1, B1, d1, rfl, rfl⟩ := hO.slices
        have kr2 := krq.below hb2 krq.lt
        obtain ⟨q0, u0⟩ := kr2.at_ 0 (x := .slice none 0 0) rfl
        obtain ⟨q1, u1⟩ := kr2.at_ 1 (x := .slice none 0 0) rfl
        have hfar : ∀ b ∈ bs, b ≠ w.heap.size + 1 + 1 := fun b hb => by have := hbs b hb; have := krq.lt; omega
        have HE := Lib.hid (And.intro ((hO.far (k := 0) (u := .slice A1 (plM M k u code).mem.length c1) hfar).far (k := 1) (u := .slice B1 (plM M k u code).ths.length d1) hfar)
          (And.intro (fun b hb => by have := hbs b hb; have := krq.lt; omega : ∀ b ∈ bs, w.heap.size ≤ b) (((HBq.out.trans (hb2.mono HBq.out.size)).setCell (p := ⟨w.heap.size + 1 + 1, 0, none⟩) (by show w.heap.size ≤ w.heap.size + 1 + 1; omega) (.slice A1 (plM M k u code).mem.length c1)).setCell (p := ⟨w.heap.size + 1 + 1, 1, none⟩) (by show w.heap.size ≤ w.heap.size + 1 + 1; omega) (.slice B1 (plM M k u code).ths.length d1))))
        clear hO hbs hb2 kr2 hfar
        go_wp2_with fail
        exact bodyPost_ret (v := .tuple #[.agg #[.slice A1 (plM M k u code).mem.length c1, .slice B1 (plM M k u code).ths.length d1], .bool true]) (by simp [results, Tryz.results19, go_sem, q0, q1, u0, u1]) rfl (by rw [HSB.out.1, HSB.out.2]; exact ⟨_, _, bs, rfl, HE.out.1, HE.out.2.1, HE.out.2.2⟩)
end Go.Proofs.YtiflooopfpcelaaGreat
