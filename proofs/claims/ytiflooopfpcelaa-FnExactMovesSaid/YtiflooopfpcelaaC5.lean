/- Contracts of AtEnd and CanMove, of both sides. Condition: the program and the machine can be read. -/
import Derived.Test.YtiflooopfpcelaaC1
import Derived.Test.YtiflooopfpcelaaC4
import Derived.Test.YtiflooopfpcelaaM9
namespace Go.Proofs.Ytiflooopfpcelaa
set_option maxRecDepth 20000
set_option linter.unusedSimpArgs false
set_option linter.unusedVariables false
open Go.ChangeShapes Go.WideShapes Go.ChangeAt Go.RowKit
/-- thread k of a machine that is well, with its code, as they lie in memory -/
structure Elem (W : World) (p : Pr) (M : Ma) (b o bT oT k : Nat) (t : Th) (code : List Ins) (cv av fv : Value) : Prop where
  well : Well p M k t code
  c0 : W.cell? ⟨b, o + k, none⟩ = some cv
  c1 : W.cell? ⟨bT, oT + k * 3, none⟩ = some (.int .i64 t.pc)
  c2 : W.cell? ⟨bT, oT + k * 3 + 1, none⟩ = some av
  c3 : W.cell? ⟨bT, oT + k * 3 + 2, none⟩ = some fv
  rc : Rd W cv 4 code.length (flc code)
  ra : Rd W av 1 t.v.length (ints t.v)
  rf : Rd W fv 2 t.f.length (flc2 t.f)
theorem mach_open {w : World} {v mv tv : Value} {p : Pr} {M : Ma} (h : RdSS w v p.x) (hm : RdMa w mv tv M) (hok : machOk p M = true) :
    ∃ b o c bT oT d A0 c0, v = .slice (some ⟨b, o, none⟩) p.x.length c ∧ tv = .slice (some ⟨bT, oT, none⟩) M.ths.length d ∧ mv = .slice A0 M.mem.length c0 ∧ b < w.heap.size ∧ bT < w.heap.size ∧ c ≤ 9223372036854775807 ∧ d ≤ 9223372036854775807 ∧ c0 ≤ 9223372036854775807 ∧
      p.x.length ≤ c ∧ M.ths.length ≤ d ∧ M.mem.length ≤ c0 ∧ 1 ≤ p.x.length ∧ p.x.length ≤ 3 ∧ M.ths.length ≤ p.x.length ∧ p.x.length ≤ M.ths.length ∧
      ∀ W, Below w.heap.size w W → ∀ k, k < M.ths.length → ∃ t code cv av fv, Elem W p M b o bT oT k t code cv av fv := by
  obtain ⟨A0, c0, B0, d0, rfl, rfl, hAc, hBd, hcc, hdc⟩ := hm.slices
  obtain ⟨vsT, hvl, ⟨A', c', hAe, -, -, -, hrT⟩, hinT⟩ := hm.ths
  injection hAe with hAe1 _ hAe3
  subst hAe1 hAe3
  obtain ⟨vs, ⟨A, c, rfl, -, hnc, hc, hr⟩, hin⟩ := h
  unfold maxLen at hc
  obtain ⟨h1, -, -, h4, -⟩ := machOk_parts hok
  have hl := progOk_len h1
  obtain ⟨bT, oT, rfl, hbT, hcT⟩ := hrT (by omega)
  obtain ⟨b, o, rfl, hb, hcell⟩ := hr (by omega)
  refine ⟨b, o, c, bT, oT, d0, A0, c0, rfl, rfl, rfl, hb, hbT, by omega, hdc, hcc, hnc, hBd, hAc, hl.1, hl.2.1, by omega, by omega, fun W hW k hk => ?_⟩
  obtain ⟨t, code, hWe⟩ := well_of hok hk
  obtain ⟨t', a1, a2, HT, HPv, hx0, hx1, hx2⟩ := th_at hvl hcT hk hW hbT
  obtain rfl : t' = t := Option.some.inj (HT.out.symm.trans hWe.ht)
  obtain ⟨ra, rb⟩ := hinT k t' (a1, a2) HT.out HPv.out
  obtain ⟨ck, hck, hrk⟩ := hin.at_ hWe.hc
  exact ⟨t', code, ck, a1, a2, hWe, (hW.cell (p := ⟨b, o + k, none⟩) hb).trans (hcell k _ hck), hx0, hx1, hx2, hrk.below hW, ra.below hW, rb.below hW⟩
set_option maxHeartbeats 3200000 in
theorem l04End (v mv tv : Value) (p : Pr) (M : Ma) (w : World) (h : RdSS w v p.x) (hm : RdMa w mv tv M) (hok : machOk p M = true) :
    Calls Try.prog 77 #[.agg #[.int .i64 p.c, v], .agg #[mv, tv]] w fun e w' => e = .returned (.bool ((M.ths.zip p.x).all endQ)) ∧ Below w.heap.size w w' := by
  obtain ⟨b, o, c, bT, oT, d, A0, c0, rfl, rfl, rfl, hb, hbT, hc1, hc2, hc3, hc4, hc5, hc6, hl1, hl2, hl3, hl4, hEl⟩ := mach_open h hm hok
  have hB0 := ((Below.refl w.heap.size w).alloc (Nat.le_refl _) (.cells #[.int .i64 p.c, .slice (some ⟨b, o, none⟩) p.x.length c] 36)).alloc (by simp) (.cells #[.slice A0 M.mem.length c0, .slice (some ⟨bT, oT, none⟩) M.ths.length d] 41)
  have k0 := (Bk.new w #[.int .i64 p.c, .slice (some ⟨b, o, none⟩) p.x.length c] 36).alloc (.cells #[.slice A0 M.mem.length c0, .slice (some ⟨bT, oT, none⟩) M.ths.length d] 41)
  have k1 := Bk.new (w.alloc (.cells #[.int .i64 p.c, .slice (some ⟨b, o, none⟩) p.x.length c] 36)) #[.slice A0 M.mem.length c0, .slice (some ⟨bT, oT, none⟩) M.ths.length d] 41
  simp only [World.size_alloc] at k1
  go_enter Try.func77, Try.ntmps77
  go_wp2_with fail
  go_loopw [5] (fun i wr => ∃ k : Nat, k ≤ M.ths.length ∧ i = .int .i64 k ∧ Hid (((M.ths.zip p.x).take k).all endQ = true) ∧ Below w.heap.size w wr ∧ Bk wr w.heap.size #[.int .i64 p.c, .slice (some ⟨b, o, none⟩) p.x.length c] 36 ∧
    Bk wr (w.heap.size + 1) #[.slice A0 M.mem.length c0, .slice (some ⟨bT, oT, none⟩) M.ths.length d] 41) (fun i _ => M.ths.length - (intOf i).toNat)
  case atStart => exact ⟨0, Nat.zero_le _, rfl, Lib.hid (by simp), hB0, k0, k1⟩
  case round =>
    obtain ⟨k, hk, rfl, HA, hB, kp, km⟩ := hrel
    clear hB0 k0 k1
    obtain ⟨z0, -⟩ := km.at_ 1 (x := .slice (some ⟨bT, oT, none⟩) M.ths.length d) rfl
    obtain ⟨z1, -⟩ := kp.at_ 1 (x := .slice (some ⟨b, o, none⟩) p.x.length c) rfl
    by_cases hlt : k < M.ths.length
    · obtain ⟨t, code, cv, av, fv, E⟩ := hEl wr hB k hlt
      obtain ⟨C, dc, rfl, -, hdc1, hdc2, -⟩ := id E.rc
      obtain ⟨F, df, rfl, -, hdf1, hdf2, -⟩ := id E.rf
      unfold maxLen at hdc2 hdf2
      have x0 := E.c0
      have x1 := E.c1
      have x3 := E.c3
      have hf3 : t.f.length ≤ 3 := by have := (thOk_parts E.well.th).2.2.1; simp only [bufOk, Bool.and_eq_true, decide_eq_true_eq] at this; exact this.1
      have HZ := Lib.hid (zip_at E.well.ht E.well.hc)
      have hklt : (k : Int) < M.ths.length := by omega
      have hklt' : (k : Int) < p.x.length := by omega
      have hbr : b < wr.heap.size := Nat.lt_of_lt_of_le hb hB.size
      clear E hEl
      by_cases he : t.pc = code.length
      · have e1 : (t.pc != (code.length : Int)) = false := by simp [he]
        have hE : endT t code = true := by simp [endT, he]
        by_cases hf : 0 < t.f.length
        · have HN : Hid ((M.ths.zip p.x).all endQ = false) := Lib.hid (allN_false HZ.out (by simp [endQ, canDr, hf]))
          clear he
          go_wp2_with fail
          go_quiet (fail)
          go_wp2_with fail
          go_ret
          exact ⟨ret_bool HN.out.symm, below_more hB _⟩
        · have HN : Hid (((M.ths.zip p.x).take (k + 1)).all endQ = true) := Lib.hid (allN_snoc HA.out HZ.out (by simp only [endQ, hE, canDr, decide_eq_false hf]; rfl))
          clear he
          go_wp2_with fail
          go_quiet (fail)
          go_wp2_with fail
          exact ⟨⟨k + 1, by omega, by go_num, HN, below_more hB _, kp.drewN _, km.drewN _⟩, by simp [intOf]; omega⟩
      · have e1 : (t.pc != (code.length : Int)) = true := by simp [he]
        have HN : Hid ((M.ths.zip p.x).all endQ = false) := Lib.hid (allN_false HZ.out (by simp [endQ, endT, he]))
        clear he
        go_wp2_with fail
        go_quiet (fail)
        go_wp2_with fail
        go_ret
        exact ⟨ret_bool HN.out.symm, below_more hB _⟩
    · obtain rfl : k = M.ths.length := by omega
      have HN := HA.out
      rw [List.take_of_length_le (by rw [List.length_zip]; omega)] at HN
      have HN := Lib.hid HN
      clear hEl
      go_wp2_with fail
      go_ret
      exact ⟨ret_bool HN.out.symm, hB⟩
set_option maxHeartbeats 1600000 in
theorem spec_AtEnd (v mv tv : Value) (p : Pr) (M : Ma) (w : World) (h : RdSS w v p.x) (hm : RdMa w mv tv M) :
    Calls Try.prog 32 #[.agg #[.int .i64 p.c, v], .agg #[mv, tv]] w fun e w' => e = .returned (.bool (endF p M)) ∧ Below w.heap.size w w' := by
  obtain ⟨A0, c0, B0, d0, rfl, rfl, -⟩ := hm.slices
  obtain ⟨vs, ⟨A, c, rfl, -, hnc, hc, hr⟩, hin⟩ := id h
  have hB0 := ((Below.refl w.heap.size w).alloc (Nat.le_refl _) (.cells #[.int .i64 p.c, .slice A p.x.length c] 36)).alloc (by simp) (.cells #[.slice A0 M.mem.length c0, .slice B0 M.ths.length d0] 41)
  have k0 := (Bk.new w #[.int .i64 p.c, .slice A p.x.length c] 36).alloc (.cells #[.slice A0 M.mem.length c0, .slice B0 M.ths.length d0] 41)
  have k1 := Bk.new (w.alloc (.cells #[.int .i64 p.c, .slice A p.x.length c] 36)) #[.slice A0 M.mem.length c0, .slice B0 M.ths.length d0] 41
  simp only [World.size_alloc] at k1
  have hC1 := spec_MachineOk _ _ _ p M _ (h.below hB0) (hm.below hB0)
  have HB0 := Lib.hid hB0
  clear hB0 hr hin
  cases hok : machOk p M
  · rw [hok] at hC1
    have HC1 := Lib.hid hC1
    have HN : Hid (endF p M = false) := Lib.hid (by simp [endF, hok])
    clear hC1 hok
    go_enter Try.func32, Try.ntmps32
    go_wp2_with fail
    refine HC1.out.mono ?_
    rintro e w1 ⟨rfl, hb1⟩
    go_wp2_with fail
    go_ret
    exact ⟨ret_bool HN.out.symm, HB0.out.trans (hb1.mono HB0.out.size)⟩
  · rw [hok] at hC1
    have HC1 := Lib.hid hC1
    have HN : Hid (endF p M = (M.ths.zip p.x).all endQ) := Lib.hid (by simp [endF, hok])
    clear hC1
    go_enter Try.func32, Try.ntmps32
    go_wp2_with fail
    refine HC1.out.mono ?_
    rintro e w1 ⟨rfl, hb1⟩
    have hB1 := HB0.out.trans (hb1.mono HB0.out.size)
    have K0 := k0.below hb1 k0.lt
    have K1 := k1.below hb1 k1.lt
    obtain ⟨p0, -⟩ := K0.at_ 0 (x := .int .i64 p.c) rfl
    obtain ⟨p1, -⟩ := K0.at_ 1 (x := .slice A p.x.length c) rfl
    obtain ⟨m0, -⟩ := K1.at_ 0 (x := .slice A0 M.mem.length c0) rfl
    obtain ⟨m1, -⟩ := K1.at_ 1 (x := .slice B0 M.ths.length d0) rfl
    have HB1 := Lib.hid hB1
    clear hB1 hb1
    go_wp2_with fail
    refine (l04End _ _ _ p M _ (h.below HB1.out) (hm.below HB1.out) hok).mono ?_
    rintro e w2 ⟨rfl, hb2⟩
    rw [← HN.out]
    have hE : ∃ z, endF p M = z := ⟨_, rfl⟩
    obtain ⟨z, hz⟩ := hE
    have HZ := Lib.hid hz
    rw [hz]
    go_wp2_with fail
    go_ret
    exact ⟨ret_bool HZ.out.symm, HB1.out.trans (hb2.mono HB1.out.size)⟩
set_option maxHeartbeats 3200000 in
theorem impl_AtEnd (v mv tv : Value) (p : Pr) (M : Ma) (w : World) (h : RdSS w v p.x) (hm : RdMa w mv tv M) :
    Calls Try.prog 33 #[.agg #[.int .i64 p.c, v], .agg #[mv, tv]] w fun e w' => e = .returned (.bool (endF p M)) ∧ Below w.heap.size w w' := by
  cases hok : machOk p M
  · obtain ⟨A0, c0, B0, d0, rfl, rfl, -⟩ := hm.slices
    obtain ⟨vs, ⟨A, c, rfl, -, hnc, hc, hr⟩, hin⟩ := id h
    have hB0 := ((Below.refl w.heap.size w).alloc (Nat.le_refl _) (.cells #[.int .i64 p.c, .slice A p.x.length c] 36)).alloc (by simp) (.cells #[.slice A0 M.mem.length c0, .slice B0 M.ths.length d0] 41)
    have hC1 := impl_MachineOk _ _ _ p M _ (h.below hB0) (hm.below hB0)
    have HB0 := Lib.hid hB0
    rw [hok] at hC1
    have HC1 := Lib.hid hC1
    have HN : Hid (endF p M = false) := Lib.hid (by simp [endF, hok])
    clear hC1 hok hB0 hr hin
    go_enter Try.func33, Try.ntmps33
    go_wp2_with fail
    refine HC1.out.mono ?_
    rintro e w1 ⟨rfl, hb1⟩
    go_wp2_with fail
    go_ret
    exact ⟨ret_bool HN.out.symm, HB0.out.trans (hb1.mono HB0.out.size)⟩
  obtain ⟨b, o, c, bT, oT, d, A0, c0, rfl, rfl, rfl, hb, hbT, hc1, hc2, hc3, hc4, hc5, hc6, hl1, hl2, hl3, hl4, hEl⟩ := mach_open h hm hok
  have hB0 := ((Below.refl w.heap.size w).alloc (Nat.le_refl _) (.cells #[.int .i64 p.c, .slice (some ⟨b, o, none⟩) p.x.length c] 36)).alloc (by simp) (.cells #[.slice A0 M.mem.length c0, .slice (some ⟨bT, oT, none⟩) M.ths.length d] 41)
  have k0 := (Bk.new w #[.int .i64 p.c, .slice (some ⟨b, o, none⟩) p.x.length c] 36).alloc (.cells #[.slice A0 M.mem.length c0, .slice (some ⟨bT, oT, none⟩) M.ths.length d] 41)
  have k1 := Bk.new (w.alloc (.cells #[.int .i64 p.c, .slice (some ⟨b, o, none⟩) p.x.length c] 36)) #[.slice A0 M.mem.length c0, .slice (some ⟨bT, oT, none⟩) M.ths.length d] 41
  simp only [World.size_alloc] at k1
  have hC1 := impl_MachineOk _ _ _ p M _ (h.below hB0) (hm.below hB0)
  rw [hok] at hC1
  have HC1 := Lib.hid hC1
  have HF : Hid (endF p M = (M.ths.zip p.x).all endQ) := Lib.hid (by simp [endF, hok])
  have HB0 := Lib.hid hB0
  clear hC1 hok hB0
  go_enter Try.func33, Try.ntmps33
  go_wp2_with fail
  refine HC1.out.mono ?_
  rintro e w1 ⟨rfl, hb1⟩
  have hB0 := HB0.out.trans (hb1.mono HB0.out.size)
  have k0 := k0.below hb1 k0.lt
  have k1 := k1.below hb1 k1.lt
  obtain ⟨z0, -⟩ := k1.at_ 1 (x := .slice (some ⟨bT, oT, none⟩) M.ths.length d) rfl
  clear hb1 HB0
  go_wp2_with fail
  clear z0
  go_loopw [14] (fun i wr => ∃ k : Nat, k ≤ M.ths.length ∧ i = .int .i64 k ∧ Hid (((M.ths.zip p.x).take k).all endQ = true) ∧ Below w.heap.size w wr ∧ Bk wr w.heap.size #[.int .i64 p.c, .slice (some ⟨b, o, none⟩) p.x.length c] 36) (fun i _ => M.ths.length - (intOf i).toNat)
  case atStart => exact ⟨0, Nat.zero_le _, rfl, Lib.hid (by simp), hB0, k0⟩
  case round =>
    obtain ⟨k, hk, rfl, HA, hB, kp⟩ := hrel
    clear hB0 k0 k1
    by_cases hlt : k < M.ths.length
    · obtain ⟨t, code, cv, av, fv, E⟩ := hEl wr hB k hlt
      obtain ⟨C, dc, rfl, -, hdc1, hdc2, -⟩ := id E.rc
      obtain ⟨Av, da, rfl, -, -, -, -⟩ := id E.ra
      obtain ⟨F, df, rfl, -, hdf1, hdf2, -⟩ := id E.rf
      have x1 := E.c1
      have x2 := E.c2
      have x3 := E.c3
      have HZ := Lib.hid (zip_at E.well.ht E.well.hc)
      have hklt' : (k : Int) < p.x.length := by omega
      have hbr : b < wr.heap.size := Nat.lt_of_lt_of_le hb hB.size
      have hBw := hB.alloc hB.size (.cells #[.int .i64 t.pc, .slice Av t.v.length da, .slice F t.f.length df] 71)
      have kt := Bk.new wr #[.int .i64 t.pc, .slice Av t.v.length da, .slice F t.f.length df] 71
      have kpw := kp.alloc (.cells #[.int .i64 t.pc, .slice Av t.v.length da, .slice F t.f.length df] 71)
      have x0 := (((Below.refl wr.heap.size wr).alloc (Nat.le_refl _) (.cells #[.int .i64 t.pc, .slice Av t.v.length da, .slice F t.f.length df] 71)).cell (p := ⟨b, o + k, none⟩) hbr).trans E.c0
      obtain ⟨WW, hWW⟩ : ∃ WW, WW = wr.alloc (.cells #[.int .i64 t.pc, .slice Av t.v.length da, .slice F t.f.length df] 71) := ⟨_, rfl⟩
      have lbw : b < WW.heap.size := by rw [hWW]; simp; omega
      rw [← hWW] at hBw kt kpw x0
      have HWW := Lib.hid hWW
      obtain ⟨g, hgs⟩ : ∃ g, wr.heap.size = g := ⟨_, rfl⟩
      have HG := Lib.hid hgs
      rw [hgs] at kt
      have HB := Lib.hid hBw
      clear hWW hgs hB hBw E hEl
      obtain ⟨t0, -⟩ := kt.at_ 0 (x := .int .i64 t.pc) rfl
      obtain ⟨t1, -⟩ := kt.at_ 1 (x := .slice Av t.v.length da) rfl
      obtain ⟨t2, -⟩ := kt.at_ 2 (x := .slice F t.f.length df) rfl
      obtain ⟨y1, -⟩ := kpw.at_ 1 (x := .slice (some ⟨b, o, none⟩) p.x.length c) rfl
      have p0 := Past.cell kt.lt t0
      have p1 := Past.cell kt.lt t1
      have p2 := Past.cell kt.lt t2
      have p3 := Past.cell kpw.lt y1
      have p4 := Past.cell lbw x0
      have hU := fun W : World => impl_atEnd t (.slice Av t.v.length da) (.slice F t.f.length df) (.slice C code.length dc) code W ⟨_, _, rfl⟩
      have hV := fun W : World => impl_canDrain t (.slice Av t.v.length da) (.slice F t.f.length df) W ⟨_, _, rfl⟩
      clear t0 t1 t2 y1
      cases he : endT t code
      · rw [he] at hU
        have HU := Lib.hid hU
        have HN : Hid ((M.ths.zip p.x).all endQ = false) := Lib.hid (allN_false HZ.out (by simp [endQ, he]))
        clear hU he hV
        go_wp2_with fail
        rw [← HWW.out, HG.out]
        refine wp_region_past (by kernel_rfl) (by kernel_rfl) ?_
        repeat (go_big_quiet_step (first | (go_at_call 78; exact Calls.past_of (HU.out _))))
        refine wpQuiet_nil ?_
        intro _ hw'
        obtain ⟨p, rfl⟩ := hw'
        go_wp2_with fail
        go_ret
        exact ⟨ret_bool (HF.out.trans HN.out).symm, HB.out.trans (p.hb.mono HB.out.size)⟩
      · rw [he] at hU
        have HU := Lib.hid hU
        cases hf : canDr t
        · rw [hf] at hV
          have HV := Lib.hid hV
          have HN : Hid (((M.ths.zip p.x).take (k + 1)).all endQ = true) := Lib.hid (allN_snoc HA.out HZ.out (by simp [endQ, he, hf]))
          clear hU he hV hf
          go_wp2_with fail
          rw [← HWW.out, HG.out]
          refine wp_region_past (by kernel_rfl) (by kernel_rfl) ?_
          repeat (go_big_quiet_step (first | (go_at_call 78; exact Calls.past_of (HU.out _)) | (go_at_call 75; exact Calls.past_of (HV.out _))))
          refine wpQuiet_nil ?_
          intro _ hw'
          obtain ⟨p, rfl⟩ := hw'
          have KP := kpw.below p.hb kpw.lt
          have HBp := Lib.hid (HB.out.trans (p.hb.mono HB.out.size))
          go_wp2_with fail
          exact ⟨⟨k + 1, by omega, by go_num, HN, HBp.out, KP⟩, by simp [intOf]; omega⟩
        · rw [hf] at hV
          have HV := Lib.hid hV
          have HN : Hid ((M.ths.zip p.x).all endQ = false) := Lib.hid (allN_false HZ.out (by simp [endQ, hf]))
          clear hU he hV hf
          go_wp2_with fail
          rw [← HWW.out, HG.out]
          refine wp_region_past (by kernel_rfl) (by kernel_rfl) ?_
          repeat (go_big_quiet_step (first | (go_at_call 78; exact Calls.past_of (HU.out _)) | (go_at_call 75; exact Calls.past_of (HV.out _))))
          refine wpQuiet_nil ?_
          intro _ hw'
          obtain ⟨p, rfl⟩ := hw'
          go_wp2_with fail
          go_ret
          exact ⟨ret_bool (HF.out.trans HN.out).symm, HB.out.trans (p.hb.mono HB.out.size)⟩
    · obtain rfl : k = M.ths.length := by omega
      have HN := HA.out
      rw [List.take_of_length_le (by rw [List.length_zip]; omega)] at HN
      have HN := Lib.hid HN
      clear hEl
      go_wp2_with fail
      go_ret
      exact ⟨ret_bool (HF.out.trans HN.out).symm, hB⟩
end Go.Proofs.Ytiflooopfpcelaa
