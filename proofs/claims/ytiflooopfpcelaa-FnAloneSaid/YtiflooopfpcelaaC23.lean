/- Contract of impl.StepPlain. Condition: the program and the machine can be read; lengths that a law bounds. -/
import Derived.Test.YtiflooopfpcelaaC18
import Derived.Test.YtiflooopfpcelaaK1
import Derived.Test.YtiflooopfpcelaaK4
import Derived.Test.YtiflooopfpcelaaI1
namespace Go.Proofs.Ytiflooopfpcelaa
set_option maxRecDepth 20000
set_option linter.unusedSimpArgs false
set_option linter.unusedVariables false
open Go.ChangeShapes Go.WideShapes Go.ChangeAt Go.RowKit
set_option linter.unusedVariables false
theorem Only.more {L L4 : List Nat} {W w4 w5 : World} (h : Only L W w4) (h2 : Only L4 w4 w5) (hl : ∀ b ∈ L4, b ∈ L ∨ W.heap.size ≤ b) : Only L W w5 :=
  ⟨h2.os.trans h.os, h2.tape.trans h.tape, h2.output.trans h.output, Nat.le_trans h.size h2.size, fun i hi hn => (h2.block i (Nat.lt_of_lt_of_le hi h.size) fun hm => (hl i hm).elim hn fun hx => by omega).trans (h.block i hi hn)⟩
set_option maxHeartbeats 6400000 in
theorem impl_StepPlain (pv mv tv : Value) (p : Pr) (M : Ma) (t : Int) (w : World) (h : RdSS w pv p.x) (hm : RdMa w mv tv M) (hsz : totMa M ≤ 16777215) :
    Calls Try.prog 39 #[.agg #[.int .i64 p.c, pv], .agg #[mv, tv], .int .i64 t] w (RetMaB (spF p M t) (spB p M t) w) := by
  obtain ⟨A0, c0, B0, d0, rfl, rfl, -⟩ := id hm.slices
  obtain ⟨vsp, ⟨Ap, cp, rfl, -, hnp, hcp, hrp⟩, hin⟩ := id h
  unfold maxLen at hcp
  have kp := ((Bk.new w #[.int .i64 p.c, .slice Ap p.x.length cp] 36).alloc (.cells #[.slice A0 M.mem.length c0, .slice B0 M.ths.length d0] 41)).alloc (.cells #[.slice none 0 0, .slice none 0 0] 41)
  have km := (Bk.new (w.alloc (.cells #[.int .i64 p.c, .slice Ap p.x.length cp] 36)) #[.slice A0 M.mem.length c0, .slice B0 M.ths.length d0] 41).alloc (.cells #[.slice none 0 0, .slice none 0 0] 41)
  have kr := Bk.new ((w.alloc (.cells #[.int .i64 p.c, .slice Ap p.x.length cp] 36)).alloc (.cells #[.slice A0 M.mem.length c0, .slice B0 M.ths.length d0] 41)) #[.slice none 0 0, .slice none 0 0] 41
  have hB0 := (((Below.refl w.heap.size w).alloc (Nat.le_refl _) (.cells #[.int .i64 p.c, .slice Ap p.x.length cp] 36)).alloc (by simp) (.cells #[.slice A0 M.mem.length c0, .slice B0 M.ths.length d0] 41)).alloc (by simp; omega) (.cells #[.slice none 0 0, .slice none 0 0] 41)
  obtain ⟨W0, hW0⟩ : ∃ W0, W0 = ((w.alloc (.cells #[.int .i64 p.c, .slice Ap p.x.length cp] 36)).alloc (.cells #[.slice A0 M.mem.length c0, .slice B0 M.ths.length d0] 41)).alloc (.cells #[.slice none 0 0, .slice none 0 0] 41) := ⟨_, rfl⟩
  rw [← hW0] at kp km kr hB0
  simp only [World.size_alloc] at km kr
  have HW := Lib.hid hW0
  obtain ⟨y0, -⟩ := km.at_ 0 (x := .slice A0 M.mem.length c0) rfl
  obtain ⟨y1, -⟩ := km.at_ 1 (x := .slice B0 M.ths.length d0) rfl
  have HR := Lib.hid h
  have HM := Lib.hid hm
  have HIN := Lib.hid hin
  have HRP := Lib.hid hrp
  have HB0 := Lib.hid hB0
  clear hW0 hB0 h hm hin hrp
  go_enter Try.func39, Try.ntmps39
  go_wp2_with fail
  rw [← HW.out]
  try go_wp2_with fail
  refine (copyMachine _ _ M _ (HM.out.below HB0.out) hsz).mono ?_
  rintro e w1 ⟨mv1, tv1, bs1, rfl, ho1, hlo1, hb1⟩
  obtain ⟨A1, c1, B1, d1, rfl, rfl⟩ := ho1.slices
  have kp1 := (kp.below hb1 kp.lt).alloc (.cells #[.slice A1 M.mem.length c1, .slice B1 M.ths.length d1] 41)
  have km1 := (km.below hb1 km.lt).alloc (.cells #[.slice A1 M.mem.length c1, .slice B1 M.ths.length d1] 41)
  have kr1 := (kr.below hb1 kr.lt).alloc (.cells #[.slice A1 M.mem.length c1, .slice B1 M.ths.length d1] 41)
  have kn1 := Bk.new w1 #[.slice A1 M.mem.length c1, .slice B1 M.ths.length d1] 41
  have hB1 := (HB0.out.trans (hb1.mono HB0.out.size)).alloc (HB0.out.trans (hb1.mono HB0.out.size)).size (.cells #[.slice A1 M.mem.length c1, .slice B1 M.ths.length d1] 41)
  have hoa := ho1.below ((Below.refl _ _).alloc (Nat.le_refl _) (.cells #[.slice A1 M.mem.length c1, .slice B1 M.ths.length d1] 41))
  have hi1 := ho1.lt
  have hsz1 := hb1.size
  have hr0 := kr.lt
  have HB1 := Lib.hid hB1
  have HLO := Lib.hid hlo1
  obtain ⟨W1, hW1⟩ : ∃ W1, W1 = w1.alloc (.cells #[.slice A1 M.mem.length c1, .slice B1 M.ths.length d1] 41) := ⟨_, rfl⟩
  have hW1s : W1.heap.size = w1.heap.size + 1 := by rw [hW1]; simp
  rw [← hW1] at kp1 km1 kr1 kn1 HB1 hoa
  have HW1 := Lib.hid (And.intro hW1 hW1s)
  have HHM : Hid (RdMa W1 (.slice A0 M.mem.length c0) (.slice B0 M.ths.length d0) M) := Lib.hid (HM.out.below HB1.out)
  have HRET : Hid (∀ X : World, Below W1.heap.size W1 X → X.cell? ⟨w1.heap.size, 0, none⟩ = some (.slice A1 M.mem.length c1) ∧ X.cell? ⟨w1.heap.size, 1, none⟩ = some (.slice B1 M.ths.length d1) ∧
      X.cell? ⟨w.heap.size + 1 + 1, 0, none⟩ = some (.slice none 0 0) ∧ X.frozen? ⟨w.heap.size + 1 + 1, 0, none⟩ = false ∧ X.cell? ⟨w.heap.size + 1 + 1, 1, none⟩ = some (.slice none 0 0) ∧ X.frozen? ⟨w.heap.size + 1 + 1, 1, none⟩ = false ∧
      ((X.setCell ⟨w.heap.size + 1 + 1, 0, none⟩ (.slice A1 M.mem.length c1)).setCell ⟨w.heap.size + 1 + 1, 1, none⟩ (.slice B1 M.ths.length d1)).cell? ⟨w.heap.size + 1 + 1, 0, none⟩ = some (.slice A1 M.mem.length c1) ∧
      ((X.setCell ⟨w.heap.size + 1 + 1, 0, none⟩ (.slice A1 M.mem.length c1)).setCell ⟨w.heap.size + 1 + 1, 1, none⟩ (.slice B1 M.ths.length d1)).cell? ⟨w.heap.size + 1 + 1, 1, none⟩ = some (.slice B1 M.ths.length d1) ∧
      OwnMa ((X.setCell ⟨w.heap.size + 1 + 1, 0, none⟩ (.slice A1 M.mem.length c1)).setCell ⟨w.heap.size + 1 + 1, 1, none⟩ (.slice B1 M.ths.length d1)) (.slice A1 M.mem.length c1) (.slice B1 M.ths.length d1) M bs1 ∧
      Below w.heap.size w ((X.setCell ⟨w.heap.size + 1 + 1, 0, none⟩ (.slice A1 M.mem.length c1)).setCell ⟨w.heap.size + 1 + 1, 1, none⟩ (.slice B1 M.ths.length d1))) := Lib.hid (by
    intro X hX
    have kn2 := kn1.below hX kn1.lt
    have kr2 := kr1.below hX kr1.lt
    obtain ⟨z0, -⟩ := kn2.at_ 0 (x := .slice A1 M.mem.length c1) rfl
    obtain ⟨z1, -⟩ := kn2.at_ 1 (x := .slice B1 M.ths.length d1) rfl
    obtain ⟨q0, e0⟩ := kr2.at_ 0 (x := .slice none 0 0) rfl
    obtain ⟨q1, e1⟩ := kr2.at_ 1 (x := .slice none 0 0) rfl
    have kf := (kr2.set_ 0 (.slice A1 M.mem.length c1)).set_ 1 (.slice B1 M.ths.length d1)
    obtain ⟨r0, -⟩ := kf.at_ 0 (x := .slice A1 M.mem.length c1) rfl
    obtain ⟨r1, -⟩ := kf.at_ 1 (x := .slice B1 M.ths.length d1) rfl
    have hof := ((hoa.below hX).far (b := w.heap.size + 1 + 1) (k := 0) (u := .slice A1 M.mem.length c1) fun x hx => by have := hlo1 x hx; omega).far (b := w.heap.size + 1 + 1) (k := 1) (u := .slice B1 M.ths.length d1) fun x hx => by have := hlo1 x hx; omega
    have hBf := ((HB1.out.trans (hX.mono HB1.out.size)).setCell (p := ⟨w.heap.size + 1 + 1, 0, none⟩) (by show w.heap.size ≤ w.heap.size + 1 + 1; omega) (.slice A1 M.mem.length c1)).setCell (p := ⟨w.heap.size + 1 + 1, 1, none⟩) (by show w.heap.size ≤ w.heap.size + 1 + 1; omega) (.slice B1 M.ths.length d1)
    exact ⟨z0, z1, q0, e0, q1, e1, r0, r1, hof, hBf⟩)
  have P6 := Past.cell kp1.lt (kp1.at_ 0 (x := .int .i64 p.c) rfl).1
  have P3 := Past.cell kp1.lt (kp1.at_ 1 (x := .slice Ap p.x.length cp) rfl).1
  have P7 := Past.cell km1.lt (km1.at_ 0 (x := .slice A0 M.mem.length c0) rfl).1
  have P5 := Past.cell km1.lt (km1.at_ 1 (x := .slice B0 M.ths.length d0) rfl).1
  have HCM := Lib.hid fun q : Past W1 => impl_MachineOk _ _ _ p M q.v (HR.out.below (HB1.out.trans (q.hb.mono HB1.out.size))) (HHM.out.below q.hb)
  clear y0 y1 kp km kr hb1 ho1 hB1 hW1 hW1s
  go_wp2_with fail
  rw [← HW1.out.1]
  cases hok : machOk p M
  · have HOK := Lib.hid hok
    have HC : Hid (∀ q : Past W1, Calls Try.prog 16 #[.agg #[.int .i64 p.c, .slice Ap p.x.length cp], .agg #[.slice A0 M.mem.length c0, .slice B0 M.ths.length d0]] q.v fun e w' => e = .returned (.bool false) ∧ Below q.v.heap.size q.v w') := Lib.hid fun q => HOK.out ▸ HCM.out q
    have HSB : Hid (spB p M t = false) := Lib.hid (by simp [spB, hok])
    clear hok HCM
    refine wp_region_past (by kernel_rfl) (by kernel_rfl) ?_
    repeat (go_big_quiet_step (first | (go_at_call 16; exact Calls.past_of (HC.out _))))
    refine wpQuiet_nil ?_
    intro _ hw'
    obtain ⟨pq, rfl⟩ := hw'
    have HX := Lib.hid pq.hb
    clear P3 P5 P6 P7
    obtain ⟨z0, z1, q0, e0, q1, e1, r0, r1, hof, hBf⟩ := HRET.out _ HX.out
    have HE := Lib.hid (And.intro hof hBf)
    clear hof hBf HRET
    go_wp2_with fail
    exact bodyPost_ret (v := .tuple #[.agg #[.slice A1 M.mem.length c1, .slice B1 M.ths.length d1], .bool false]) (by simp [results, Try.results39, go_sem, r0, r1]) rfl
      ⟨_, _, bs1, by rw [HSB.out], by rw [spF_false HSB.out]; exact HE.out.1, fun b hb => by have := HLO.out b hb; have := HB0.out.size; omega, HE.out.2⟩
  · have HOK := Lib.hid hok
    have HC : Hid (∀ q : Past W1, Calls Try.prog 16 #[.agg #[.int .i64 p.c, .slice Ap p.x.length cp], .agg #[.slice A0 M.mem.length c0, .slice B0 M.ths.length d0]] q.v fun e w' => e = .returned (.bool true) ∧ Below q.v.heap.size q.v w') := Lib.hid fun q => HOK.out ▸ HCM.out q
    clear hok HCM
    cases hin2 : inB t 0 (M.ths.length - 1)
    · have HI : Hid (∀ W : World, Calls Try.prog 89 #[.int .i64 t, .int .i64 M.ths.length] W fun e w' => e = .returned (.bool false) ∧ Below W.heap.size W w') := Lib.hid fun W => toB (hin2 ▸ impl_indexOk t M.ths.length W)
      have HSB : Hid (spB p M t = false) := Lib.hid (by simp [spB, hin2])
      clear hin2
      refine wp_region_past (by kernel_rfl) (by kernel_rfl) ?_
      repeat (go_big_quiet_step (first | (go_at_call 16; exact Calls.past_of (HC.out _)) | (go_at_call 89; exact Calls.past_of (HI.out _))))
      refine wpQuiet_nil ?_
      intro _ hw'
      obtain ⟨pq, rfl⟩ := hw'
      have HX := Lib.hid pq.hb
      clear P3 P5 P6 P7
      obtain ⟨z0, z1, q0, e0, q1, e1, r0, r1, hof, hBf⟩ := HRET.out _ HX.out
      have HE := Lib.hid (And.intro hof hBf)
      clear hof hBf HRET
      go_wp2_with fail
      exact bodyPost_ret (v := .tuple #[.agg #[.slice A1 M.mem.length c1, .slice B1 M.ths.length d1], .bool false]) (by simp [results, Try.results39, go_sem, r0, r1]) rfl
        ⟨_, _, bs1, by rw [HSB.out], by rw [spF_false HSB.out]; exact HE.out.1, fun b hb => by have := HLO.out b hb; have := HB0.out.size; omega, HE.out.2⟩
    · have hib := inB_true hin2
      obtain ⟨k, hk⟩ : ∃ k : Nat, t = k := ⟨t.toNat, by omega⟩
      subst hk
      have hkl : k < M.ths.length := by omega
      have HI : Hid (∀ W : World, Calls Try.prog 89 #[.int .i64 k, .int .i64 M.ths.length] W fun e w' => e = .returned (.bool true) ∧ Below W.heap.size W w') := Lib.hid fun W => toB (hin2 ▸ impl_indexOk k M.ths.length W)
      have HIN2 := Lib.hid hin2
      clear hin2
      obtain ⟨b, o, c, bQ, oQ, d, A9, c9, hpe, hte, hme, hbl, hbQ, hcc, hdc, -, -, -, -, hl1, hl3, hl4, hl5, hEl⟩ := mach_open HR.out HM.out HOK.out
      injection hpe with hpe1 _ hpe3
      injection hte with hte1 _ hte3
      subst hpe1 hpe3 hte1 hte3
      clear hme
      obtain ⟨u, code, cv, av, fv, E⟩ := hEl W1 HB1.out k hkl
      obtain ⟨C, dc, rfl, -, hdc1, hdc2, -⟩ := id E.rc
      obtain ⟨Av, da, rfl, -, -, -, -⟩ := id E.ra
      obtain ⟨F, df, rfl, -, hdf1, hdf2, -⟩ := id E.rf
      have HE9 := Lib.hid E
      have P0 := Past.cell (Nat.lt_of_lt_of_le hbQ HB1.out.size) E.c1
      have P1 := Past.cell (Nat.lt_of_lt_of_le hbQ HB1.out.size) E.c2
      have P2 := Past.cell (Nat.lt_of_lt_of_le hbQ HB1.out.size) E.c3
      have P4 := Past.cell (Nat.lt_of_lt_of_le hbl HB1.out.size) E.c0
      have hU := fun W : World => impl_atEnd u (.slice Av u.v.length da) (.slice F u.f.length df) (.slice C code.length dc) code W ⟨_, _, rfl⟩
      have hkl' : (k : Int) < M.ths.length := by omega
      have hkl2 : (k : Int) < p.x.length := by omega
      have HEL := Lib.hid hEl
      clear E hEl
      cases he : endT u code
      case true =>
        rw [he] at hU
        have HU := Lib.hid hU
        have HSB : Hid (spB p M k = false) := Lib.hid (by simp [spB, List.getD_eq_getElem?_getD, HE9.out.well.ht, HE9.out.well.hc, he])
        clear hU he
        refine wp_region_past (by kernel_rfl) (by kernel_rfl) ?_
        repeat (go_big_quiet_step (first | (go_at_call 16; exact Calls.past_of (HC.out _)) | (go_at_call 89; exact Calls.past_of (HI.out _)) | (go_at_call 78; exact Calls.past_of (HU.out _))))
        refine wpQuiet_nil ?_
        intro _ hw'
        obtain ⟨pq, rfl⟩ := hw'
        have HX := Lib.hid pq.hb
        clear P0 P1 P2 P3 P4 P5 P6 P7
        obtain ⟨z0, z1, q0, e0, q1, e1, r0, r1, hof, hBf⟩ := HRET.out _ HX.out
        have HE := Lib.hid (And.intro hof hBf)
        clear hof hBf HRET
        go_wp2_with fail
        exact bodyPost_ret (v := .tuple #[.agg #[.slice A1 M.mem.length c1, .slice B1 M.ths.length d1], .bool false]) (by simp [results, Try.results39, go_sem, r0, r1]) rfl
          ⟨_, _, bs1, by rw [HSB.out], by rw [spF_false HSB.out]; exact HE.out.1, fun b hb => by have := HLO.out b hb; have := HB0.out.size; omega, HE.out.2⟩
      case false =>
        rw [he] at hU
        have HU := Lib.hid hU
        have hne : u.pc ≠ code.length := by simpa [endT] using he
        have HSB : Hid (spB p M k = true ∧ spF p M k = plM M k u code) := Lib.hid (by
          have h1 : spB p M k = true := by
            unfold spB
            rw [HOK.out, HIN2.out]
            simp [List.getD_eq_getElem?_getD, HE9.out.well.ht, HE9.out.well.hc, he]
          exact ⟨h1, by unfold spF; rw [h1]; simp [List.getD_eq_getElem?_getD, HE9.out.well.ht, HE9.out.well.hc]⟩)
        clear hU he HRET
        refine wp_region_past (by kernel_rfl) (by kernel_rfl) ?_
        repeat (go_big_quiet_step (first | (go_at_call 16; exact Calls.past_of (HC.out _)) | (go_at_call 89; exact Calls.past_of (HI.out _)) | (go_at_call 78; exact Calls.past_of (HU.out _))))
        refine wpQuiet_nil ?_
        intro _ hw'
        obtain ⟨pq, rfl⟩ := hw'
        clear P0 P1 P2 P3 P4 P5 P6 P7
        have kn2 := kn1.below pq.hb kn1.lt
        have hg1 : w1.heap.size ∉ bs1 := fun h => by have := hi1 _ h; omega
        obtain ⟨bT, oT, cT, L, htv, hMx, hL⟩ := (hoa.below pq.hb).toMB (by omega) kn2 hg1
        injection htv with htv1 _ htv3
        subst htv1 htv3
        obtain ⟨mvx, vs, qs, bm, hMB, hLL⟩ := id hMx
        have hcore := impl_core w1.heap.size bT oT d1 k mvx M vs qs bm pq.v hMB hkl
        have HCO := Lib.hid hcore
        have hB2 := HB1.out.trans (pq.hb.mono HB1.out.size)
        have HK2 := Lib.hid (And.intro (kp1.below pq.hb kp1.lt) (kr1.below pq.hb kr1.lt))
        have HMX := Lib.hid hMx
        have HB2 := Lib.hid hB2
        have hs2 := pq.hb.size
        clear hcore hMB hLL hMx hB2 hoa
        go_wp2_with fail
        refine HCO.out.mono ?_
        rintro e w3 ⟨rfl, hb3⟩
        unfold coreV
        have kp3 := (HK2.out.1.below hb3 HK2.out.1.lt).alloc (.cells #[.pointer (some ⟨bT, oT + k * 3, none⟩), .pointer (some ⟨w1.heap.size, 0, none⟩)] 123)
        have kr3 := (HK2.out.2.below hb3 HK2.out.2.lt).alloc (.cells #[.pointer (some ⟨bT, oT + k * 3, none⟩), .pointer (some ⟨w1.heap.size, 0, none⟩)] 123)
        have kc3 := Bk.new w3 #[.pointer (some ⟨bT, oT + k * 3, none⟩), .pointer (some ⟨w1.heap.size, 0, none⟩)] 123
        have hA3 := (Below.refl w3.heap.size w3).alloc (Nat.le_refl _) (.cells #[.pointer (some ⟨bT, oT + k * 3, none⟩), .pointer (some ⟨w1.heap.size, 0, none⟩)] 123)
        have hB3 := (HB2.out.trans (hb3.mono HB2.out.size)).trans (hA3.mono (HB2.out.trans (hb3.mono HB2.out.size)).size)
        have hMx3 := (HMX.out.below hb3).below hA3
        have hLt := (HMX.out.below hb3).lt
        have hs3 := hb3.size
        have hLw : ∀ b ∈ L, w.heap.size + 3 ≤ b := fun b hb => by
          rcases hL b hb with h | h
          · have := hr0; have := hsz1; omega
          · have := hlo1 b h; have := hr0; omega
        obtain ⟨W3, hW3⟩ : ∃ W3, W3 = w3.alloc (.cells #[.pointer (some ⟨bT, oT + k * 3, none⟩), .pointer (some ⟨w1.heap.size, 0, none⟩)] 123) := ⟨_, rfl⟩
        have hW3s : W3.heap.size = w3.heap.size + 1 := by rw [hW3]; simp
        rw [← hW3] at kp3 kr3 kc3 hB3 hMx3
        obtain ⟨s0, -⟩ := kc3.at_ 0 (x := .pointer (some ⟨bT, oT + k * 3, none⟩)) rfl
        obtain ⟨s1, -⟩ := kc3.at_ 1 (x := .pointer (some ⟨w1.heap.size, 0, none⟩)) rfl
        have HW3 := Lib.hid (And.intro hW3 hW3s)
        have hml : M.mem.length ≤ 16777215 := by unfold totMa at hsz; omega
        have HDA := Lib.hid (impl_drainAll w1.heap.size bT oT d1 k M u L W3 hMx3 HE9.out.well.ht hml)
        have HK3 := Lib.hid (And.intro kp3 (And.intro kr3 kc3))
        have HB3 := Lib.hid hB3
        have HLW := Lib.hid (And.intro hLw hLt)
        unfold coreV at HDA
        clear hW3 hW3s hb3 hA3 hMx3 kp3 kr3 kc3 hB3 hLw hLt hL
        go_wp2_with fail
        rw [← HW3.out.1]
        try go_wp2_with fail
        refine HDA.out.mono ?_
        rintro e w4 ⟨rfl, L4, hx4, ho4, hl4⟩
        have hd4 : MBx w4 w1.heap.size bT oT d1 (daM M k u) L4 := hx4
        have HX4 := Lib.hid (And.intro hd4 (And.intro ho4 hl4))
        have hB4 := HB3.out.trans (ho4.below HB3.out.size fun b hb => by have := HLW.out.1 b hb; omega)
        have kp4 := HK3.out.1.only ho4 (fun h => by have := HLW.out.1 _ h; omega)
        have kc4 := HK3.out.2.2.only ho4 (fun h => by have := HLW.out.2 _ h; omega)
        obtain ⟨u9, cd9, cv9, av9, fv9, E9⟩ := HEL.out w4 hB4 k hkl
        obtain rfl : u9 = u := Option.some.inj (E9.well.ht.symm.trans HE9.out.well.ht)
        obtain rfl : cd9 = code := Option.some.inj (E9.well.hc.symm.trans HE9.out.well.hc)
        obtain ⟨C9, dc9, rfl, -, hdc91, hdc92, -⟩ := id E9.rc
        have Q0 := fun q : Past w4 => Past.cell kc4.lt (kc4.at_ 0 (x := .pointer (some ⟨bT, oT + k * 3, none⟩)) rfl).1 q
        have Q1 := fun q : Past w4 => Past.cell kc4.lt (kc4.at_ 1 (x := .pointer (some ⟨w1.heap.size, 0, none⟩)) rfl).1 q
        have Q2 := fun q : Past w4 => Past.cell kp4.lt (kp4.at_ 1 (x := .slice (some ⟨b, o, none⟩) p.x.length cp) rfl).1 q
        have Q4 := fun q : Past w4 => Past.cell (Nat.lt_of_lt_of_le hbl hB4.size) E9.c0 q
        have hml' : (M.mem.length : Int) = p.c := (machOk_parts HOK.out).2.2.1
        have hmd : ((daM M k u9).mem.length : Int) = p.c := by rw [← hml']; exact congrArg _ (daF_len _ _)
        have hc16 : p.c ≤ 16 := by have := progOk_len (machOk_parts HOK.out).1; omega
        have hd := daM_ok HOK.out E9.well.ht E9.well.hc
        obtain ⟨-, -, hcx⟩ := noBuf_can HOK.out E9.well.ht E9.well.hc hne
        have HCX := Lib.hid (impl_execute w1.heap.size bT oT d1 k _ cd9 p (daM M k u9) (noBuf u9) L4 w4.drew (HX4.out.1.below (Below.refl _ _).drew) (daM_at E9.well.ht) (machOk_th hd (daM_at E9.well.ht) E9.well.hc) (exec_of hd (daM_at E9.well.ht) E9.well.hc hcx) hmd hc16 (E9.rc.below (Below.refl _ _).drew))
        have HP9 := Lib.hid (And.intro E9.well (And.intro hmd hd))
        have HB4 := Lib.hid hB4
        unfold coreV at HCX
        clear hx4 hd4 ho4 hl4 hB4 kp4 kc4 E9 hmd hd hcx s0 s1 hml'
        go_wp2_with fail
        refine wp_region_two 6 6 (fun w' => ∃ q : Past w4, w' = q.v) (fun _ => True) (by kernel_rfl) ?_
        refine wpAnyX_pass (C := (fun w' => ∃ q : Past w4, w' = q.v)) (some false) [true, true, true, true, true, true] rfl (by kernel_rfl) (fun _ _ t _ _ h => by cases t <;> exact h) ⟨fun _ => ⟨⟨w4.drew, (Below.refl _ _).drew⟩, rfl⟩, fun _ => trivial⟩ ?_
        simp only [keepOps]
        repeat (go_big_quiet_step (fail))
        refine wpQuiet_nil ?_
        refine wpAnyX_one 6 rfl (by kernel_rfl) (by kernel_rfl) ?_
        go_wp2_with fail
        refine HCX.out.mono ?_
        rintro e w5 ⟨rfl, L5, hx5, ho5, hl5'⟩
        have ho5' : Only L4 w4 w5 := (Only.of_below (Below.refl _ _).drew _).trans ho5
        have hl45 : ∀ b ∈ L4, b ∈ L ∨ W3.heap.size ≤ b := fun b hb => (HX4.out.2.2 b hb)
        have ho35 : Only L W3 w5 := HX4.out.2.1.more ho5' hl45
        have hl35 : ∀ b ∈ L5, b ∈ L ∨ W3.heap.size ≤ b := fun b hb => by
          rcases hl5' b hb with h | h
          · exact hl45 b h
          · have h2 : w4.heap.size ≤ b := h
            exact .inr (Nat.le_trans HX4.out.2.1.size h2)
        have hx5e : MBx w5 w1.heap.size bT oT d1 (plE M k u9 cd9) L5 := hx5
        have HX5 := Lib.hid (And.intro hx5e (And.intro ho35 hl35))
        have kc5 := HK3.out.2.2.only ho35 (fun h => by have := HLW.out.2 _ h; omega)
        obtain ⟨s0, -⟩ := kc5.at_ 0 (x := .pointer (some ⟨bT, oT + k * 3, none⟩)) rfl
        obtain ⟨s1, -⟩ := kc5.at_ 1 (x := .pointer (some ⟨w1.heap.size, 0, none⟩)) rfl
        have hpm : (plE M k u9 cd9).mem.length ≤ 16777215 := by have := machOk_tot (plE_ok HOK.out HP9.out.1.ht HP9.out.1.hc hne); unfold totMa at this; omega
        have HDB := Lib.hid (impl_drainAll w1.heap.size bT oT d1 k (plE M k u9 cd9) (plT M u9 cd9) L5 w5 hx5e (plE_at HP9.out.1.ht) hpm)
        unfold coreV at HDB
        clear hx5 ho5 hl5' ho5' hl45 ho35 hl35 hx5e kc5 Q0 Q1 Q2 Q4 hpm
        go_wp2_with fail
        refine ⟨⟨fun h => absurd (show true = false from h) (by decide), fun _ => trivial⟩, ?_⟩
        refine wpAnyX_done (by kernel_rfl) ?_
        go_wp2_with fail
        refine HDB.out.mono ?_
        rintro e w6 ⟨rfl, L6, hx6, ho6, hl6⟩
        have hx6e : MBx w6 w1.heap.size bT oT d1 (plM M k u9 cd9) L6 := hx6
        have ho36 : Only L W3 w6 := HX5.out.2.1.more ho6 HX5.out.2.2
        have hl36 : ∀ b ∈ L6, b ∈ L ∨ W3.heap.size ≤ b := fun b hb => by
          rcases hl6 b hb with h | h
          · exact HX5.out.2.2 b h
          · exact .inr (Nat.le_trans HX5.out.2.1.size h)
        obtain ⟨mv4, bs4, hbox, hown, hsub, hgn⟩ := hx6e.own
        rw [plM_len] at hbox hown
        obtain ⟨bm0, bt0, hm0, -⟩ := id hown
        obtain ⟨Am, cm, rfl, -, -⟩ := hm0.slice
        have hfar : ∀ b ∈ bs4, w.heap.size + 1 + 1 < b := fun b hb => by
          rcases hl36 b (hsub b hb) with h | h
          · have := HLW.out.1 b h; omega
          · have := HW3.out.2; have := HK3.out.2.1.lt; omega
        have hkr := HK3.out.2.1.only ho36 (fun h => by have := HLW.out.1 _ h; omega)
        have hof := (hown.far (b := w.heap.size + 1 + 1) (k := 0) (u := .slice Am (plM M k u9 cd9).mem.length cm) fun b hb => by have := hfar b hb; omega).far (b := w.heap.size + 1 + 1) (k := 1) (u := .slice (some ⟨bT, oT, none⟩) M.ths.length d1) fun b hb => by have := hfar b hb; omega
        have hBf := (((ho36.below (B := w.heap.size) HB3.out.size fun b hb => by have := HLW.out.1 b hb; omega) |> HB3.out.trans).setCell (p := ⟨w.heap.size + 1 + 1, 0, none⟩) (by show w.heap.size ≤ w.heap.size + 1 + 1; omega) (.slice Am (plM M k u9 cd9).mem.length cm)).setCell (p := ⟨w.heap.size + 1 + 1, 1, none⟩) (by show w.heap.size ≤ w.heap.size + 1 + 1; omega) (.slice (some ⟨bT, oT, none⟩) M.ths.length d1)
        obtain ⟨z0, -⟩ := hbox.at_ 0 (x := .slice Am (plM M k u9 cd9).mem.length cm) rfl
        obtain ⟨z1, -⟩ := hbox.at_ 1 (x := .slice (some ⟨bT, oT, none⟩) M.ths.length d1) rfl
        obtain ⟨q0, e0⟩ := hkr.at_ 0 (x := .slice none 0 0) rfl
        obtain ⟨q1, e1⟩ := hkr.at_ 1 (x := .slice none 0 0) rfl
        have kf := (hkr.set_ 0 (.slice Am (plM M k u9 cd9).mem.length cm)).set_ 1 (.slice (some ⟨bT, oT, none⟩) M.ths.length d1)
        obtain ⟨r0, -⟩ := kf.at_ 0 (x := .slice Am (plM M k u9 cd9).mem.length cm) rfl
        obtain ⟨r1, -⟩ := kf.at_ 1 (x := .slice (some ⟨bT, oT, none⟩) M.ths.length d1) rfl
        have HE := Lib.hid (And.intro hof (And.intro (fun b hb => by have := hfar b hb; omega : ∀ b ∈ bs4, w.heap.size ≤ b) hBf))
        clear hof hBf hx6 hx6e ho36 hl36 ho6 hl6 hown hsub hgn hfar hbox hkr kf s0 s1
        go_wp2_with fail
        exact bodyPost_ret (v := .tuple #[.agg #[.slice Am (plM M k u9 cd9).mem.length cm, .slice (some ⟨bT, oT, none⟩) M.ths.length d1], .bool true]) (by simp [results, Try.results39, go_sem, r0, r1]) rfl
          ⟨_, _, bs4, by rw [HSB.out.1], by rw [HSB.out.2]; exact HE.out.1, HE.out.2.1, HE.out.2.2⟩
end Go.Proofs.Ytiflooopfpcelaa
