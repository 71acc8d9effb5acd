import Derived.Test.YtiflooopfpcelaaV4
import Derived.Test.YtiflooopfpcelaaM4
import Derived.Test.YtiflooopfpcelaaB2
import Derived.Test.YtiflooopfpcelaaM2
import Derived.Test.YtiflooopfpcelaaM9
import Derived.Laws.StructEq
/- Contract of spec.MachineOk. Condition: the program and the machine can be read. -/
namespace Go.Proofs.Ytiflooopfpcelaa
set_option maxRecDepth 20000
set_option linter.unusedSimpArgs false
set_option linter.unusedVariables false
open Go.ChangeShapes Go.WideShapes Go.ChangeAt Go.RowKit
set_option maxHeartbeats 6400000 in
theorem spec_MachineOk (v mv tv : Value) (p : Pr) (M : Ma) (w : World) (h : RdSS w v p.x) (hm : RdMa w mv tv M) :
    Calls Try.prog 13 #[.agg #[.int .i64 p.c, v], .agg #[mv, tv]] w fun e w' => e = .returned (.bool (machOk p M)) ∧ Below w.heap.size w w' := by
  obtain ⟨A0, c0, B0, d0, rfl, rfl, -, hBd, hcc, hdc⟩ := hm.slices
  have hmem := hm.mem
  obtain ⟨vsT, hvl, ⟨A', c', hAe, -, -, -, hrT⟩, hinT⟩ := hm.ths
  injection hAe with hAe1 _ hAe3
  subst hAe1 hAe3
  have hpR := h
  obtain ⟨vs, ⟨A, c, rfl, -, hnc, hc, hr⟩, hin⟩ := h
  unfold maxLen at hc
  obtain ⟨pc, px⟩ := p
  obtain ⟨mem, ths⟩ := M
  simp only at *
  have hB0 := ((Below.refl w.heap.size w).alloc (Nat.le_refl _) (.cells #[.int .i64 pc, .slice A px.length c] 36)).alloc (by simp) (.cells #[.slice A0 mem.length c0, .slice B0 ths.length d0] 41)
  have k0 := (Bk.new w #[.int .i64 pc, .slice A px.length c] 36).alloc (.cells #[.slice A0 mem.length c0, .slice B0 ths.length d0] 41)
  have k1 := Bk.new (w.alloc (.cells #[.int .i64 pc, .slice A px.length c] 36)) #[.slice A0 mem.length c0, .slice B0 ths.length d0] 41
  simp only [World.size_alloc] at k1
  have hC1 := spec_ProgOk _ ⟨pc, px⟩ _ (hpR.below hB0)
  have HB0 := Lib.hid hB0
  clear hB0
  cases hp : progOkF ⟨pc, px⟩
  · rw [hp] at hC1
    have HN : Hid (machOk ⟨pc, px⟩ ⟨mem, ths⟩ = false) := Lib.hid (by simp [machOk, hp])
    have HC1 := Lib.hid hC1
    clear hr hin hrT hinT hp hC1
    go_enter Try.func13, Try.ntmps13
    go_wp2_with fail
    refine HC1.out.mono ?_
    rintro e w1 ⟨rfl, hb1⟩
    go_wp2_with fail
    go_ret
    exact ⟨ret_bool HN.out.symm, HB0.out.trans (hb1.mono HB0.out.size)⟩
  rw [hp] at hC1
  have HP := Lib.hid hp
  have hpl := progOk_len hp
  simp only at hpl
  clear hp
  have HC1 := Lib.hid hC1
  clear hC1
  cases hme : memOk mem
  · have HN : Hid (machOk ⟨pc, px⟩ ⟨mem, ths⟩ = false) := Lib.hid (by simp [machOk, hme])
    clear hr hin hrT hinT
    go_enter Try.func13, Try.ntmps13
    go_wp2_with fail
    refine HC1.out.mono ?_
    rintro e w1 ⟨rfl, hb1⟩
    have hB1 := HB0.out.trans (hb1.mono HB0.out.size)
    obtain ⟨q0, -⟩ := (k1.below hb1 k1.lt).at_ 0 (x := .slice A0 mem.length c0) rfl
    have HB1 := Lib.hid hB1
    have hC2 := spec_MemOk _ mem _ (hmem.below hB1)
    rw [hme] at hC2
    have HC2 := Lib.hid hC2
    clear hB1 hC2 hme
    go_wp2_with fail
    refine HC2.out.mono ?_
    rintro e w2 ⟨rfl, hb2⟩
    go_wp2_with fail
    go_ret
    exact ⟨ret_bool HN.out.symm, HB1.out.trans (hb2.mono HB1.out.size)⟩
  by_cases hgood : ¬ ((mem.length : Int) = pc ∧ ths.length = px.length)
  · have HN : Hid (machOk ⟨pc, px⟩ ⟨mem, ths⟩ = false) := Lib.hid (by
      by_cases h1 : (mem.length : Int) = pc
      · have h2 : ¬ ths.length = px.length := fun h => hgood ⟨h1, h⟩
        simp [machOk, h2]
      · simp [machOk, h1])
    have hcase : ((mem.length : Int) != pc) = true ∨ (((mem.length : Int) != pc) = false ∧ ((ths.length : Int) != (px.length : Int)) = true) := by
      by_cases h1 : (mem.length : Int) = pc
      · have h2 : ¬ ths.length = px.length := fun h => hgood ⟨h1, h⟩
        exact .inr ⟨by simp [h1], by simp; omega⟩
      · exact .inl (by simp [h1])
    clear hr hin hrT hinT hgood
    rcases hcase with h1 | ⟨h1, h2⟩
    all_goals
      go_enter Try.func13, Try.ntmps13
      go_wp2_with fail
      refine HC1.out.mono ?_
      rintro e w1 ⟨rfl, hb1⟩
      have hB1 := HB0.out.trans (hb1.mono HB0.out.size)
      obtain ⟨q0, -⟩ := (k1.below hb1 k1.lt).at_ 0 (x := .slice A0 mem.length c0) rfl
      have HB1 := Lib.hid hB1
      have hC2 := spec_MemOk _ mem _ (hmem.below hB1)
      rw [hme] at hC2
      have HC2 := Lib.hid hC2
      clear hB1 hC2 hme
      go_wp2_with fail
      refine HC2.out.mono ?_
      rintro e w2 ⟨rfl, hb2⟩
      obtain ⟨q0', -⟩ := ((k1.below hb1 k1.lt).below hb2 (k1.below hb1 k1.lt).lt).at_ 0 (x := .slice A0 mem.length c0) rfl
      obtain ⟨q1', -⟩ := ((k1.below hb1 k1.lt).below hb2 (k1.below hb1 k1.lt).lt).at_ 1 (x := .slice B0 ths.length d0) rfl
      obtain ⟨q2', -⟩ := ((k0.below hb1 k0.lt).below hb2 (k0.below hb1 k0.lt).lt).at_ 0 (x := .int .i64 pc) rfl
      obtain ⟨q3', -⟩ := ((k0.below hb1 k0.lt).below hb2 (k0.below hb1 k0.lt).lt).at_ 1 (x := .slice A px.length c) rfl
      go_wp2_with fail
      go_ret
      exact ⟨ret_bool HN.out.symm, HB1.out.trans (hb2.mono HB1.out.size)⟩
  obtain ⟨hg1, hg2⟩ := Classical.not_not.1 hgood
  clear hgood
  have HF : Hid (machOk ⟨pc, px⟩ ⟨mem, ths⟩ = (ths.zip px).all (thQ pc)) := Lib.hid (by simp [machOk, HP.out, hme, hg1, hg2])
  have e1 : ((mem.length : Int) != pc) = false := by simp [hg1]
  have e2 : ((ths.length : Int) != (px.length : Int)) = false := by simp [hg2]
  have hg2' : ths.length ≤ px.length ∧ px.length ≤ ths.length := by omega
  clear hg1 hg2
  obtain ⟨bT, oT, rfl, hbT, hcT⟩ := hrT (by omega)
  obtain ⟨b, o, rfl, hb, hcell⟩ := hr (by omega)
  go_enter Try.func13, Try.ntmps13
  go_wp2_with fail
  refine HC1.out.mono ?_
  rintro e w1 ⟨rfl, hb1⟩
  have hB1 := HB0.out.trans (hb1.mono HB0.out.size)
  have k0' := k0.below hb1 k0.lt
  have k1' := k1.below hb1 k1.lt
  obtain ⟨q0, -⟩ := k1'.at_ 0 (x := .slice A0 mem.length c0) rfl
  have hC2 := spec_MemOk _ mem _ (hmem.below hB1)
  have HB1 := Lib.hid hB1
  rw [hme] at hC2
  have HC2 := Lib.hid hC2
  clear hB1 hC2 hme
  go_wp2_with fail
  refine HC2.out.mono ?_
  rintro e w2 ⟨rfl, hb2⟩
  have k0 := k0'.below hb2 k0'.lt
  have k1 := k1'.below hb2 k1'.lt
  have hB0 := HB1.out.trans (hb2.mono HB1.out.size)
  clear k0' k1' q0 hb1 hb2 HB1 HC2 HC1 HB0
  obtain ⟨q0', -⟩ := k1.at_ 0 (x := .slice A0 mem.length c0) rfl
  obtain ⟨q1', -⟩ := k1.at_ 1 (x := .slice (some ⟨bT, oT, none⟩) ths.length d0) rfl
  obtain ⟨q2', -⟩ := k0.at_ 0 (x := .int .i64 pc) rfl
  obtain ⟨q3', -⟩ := k0.at_ 1 (x := .slice (some ⟨b, o, none⟩) px.length c) rfl
  go_wp2_with fail
  clear q0' q1' q2' q3'
  go_loopw [5] (fun i wr => ∃ k : Nat, k ≤ ths.length ∧ i = .int .i64 k ∧ Hid (((ths.zip px).take k).all (thQ pc) = true) ∧ Below w.heap.size w wr ∧ Bk wr w.heap.size #[.int .i64 pc, .slice (some ⟨b, o, none⟩) px.length c] 36 ∧
    Bk wr (w.heap.size + 1) #[.slice A0 mem.length c0, .slice (some ⟨bT, oT, none⟩) ths.length d0] 41) (fun i _ => ths.length - (intOf i).toNat)
  case atStart => exact ⟨0, Nat.zero_le _, rfl, Lib.hid (by simp), hB0, k0, k1⟩
  case round =>
    obtain ⟨k, hk, rfl, HA, hB, kp, km⟩ := hrel
    clear hB0 k0 k1
    obtain ⟨z1, -⟩ := km.at_ 1 (x := .slice (some ⟨bT, oT, none⟩) ths.length d0) rfl
    by_cases hlt : k < ths.length
    · obtain ⟨t, a1, a2, HT, HPv, hx0, hx1, hx2⟩ := th_at hvl hcT hlt hB hbT
      obtain ⟨ra, rb⟩ := hinT k t (a1, a2) HT.out HPv.out
      have hcx : px[k]? = some px[k] := List.getElem?_eq_getElem (by omega)
      generalize px[k] = code at hcx
      obtain ⟨ck, hck, hrk⟩ := hin.at_ hcx
      have hx := (hB.cell (p := ⟨b, o + k, none⟩) hb).trans (hcell k _ hck)
      have HZ := Lib.hid (zip_at HT.out hcx)
      obtain ⟨Ak, dk, rfl, -, hnk, hdk, -⟩ := id hrk
      unfold maxLen at hdk
      have ra1 := ra.below hB
      have rb1 := rb.below hB
      obtain ⟨Av, cv, rfl, -, hnv, hcv, hrv⟩ := id ra1
      obtain ⟨Af, cf, rfl, -, hnf, hcf, hrf⟩ := id rb1
      unfold maxLen at hcv hcf
      have lb : b < wr.heap.size := Nat.lt_of_lt_of_le hb hB.size
      clear hcT hcell hrk hcx hck hr hin hinT ra rb HPv
      have hBw := hB.alloc hB.size (.cells #[.int .i64 t.pc, .slice Av t.v.length cv, .slice Af t.f.length cf] 71)
      have kt := Bk.new wr #[.int .i64 t.pc, .slice Av t.v.length cv, .slice Af t.f.length cf] 71
      have kpw := kp.alloc (.cells #[.int .i64 t.pc, .slice Av t.v.length cv, .slice Af t.f.length cf] 71)
      have kmw := km.alloc (.cells #[.int .i64 t.pc, .slice Av t.v.length cv, .slice Af t.f.length cf] 71)
      have hxw := (((Below.refl wr.heap.size wr).alloc (Nat.le_refl _) (.cells #[.int .i64 t.pc, .slice Av t.v.length cv, .slice Af t.f.length cf] 71)).cell (p := ⟨b, o + k, none⟩) lb).trans hx
      have raw := ra1.below ((Below.refl wr.heap.size wr).alloc (Nat.le_refl _) (.cells #[.int .i64 t.pc, .slice Av t.v.length cv, .slice Af t.f.length cf] 71))
      have rbw := rb1.below ((Below.refl wr.heap.size wr).alloc (Nat.le_refl _) (.cells #[.int .i64 t.pc, .slice Av t.v.length cv, .slice Af t.f.length cf] 71))
      obtain ⟨WW, hWW⟩ : ∃ WW, WW = wr.alloc (.cells #[.int .i64 t.pc, .slice Av t.v.length cv, .slice Af t.f.length cf] 71) := ⟨_, rfl⟩
      have lbw : b < WW.heap.size := by rw [hWW]; simp; omega
      rw [← hWW] at hBw kt kpw kmw hxw raw rbw
      have HWW := Lib.hid hWW
      have hgs : ∃ g, wr.heap.size = g := ⟨_, rfl⟩
      obtain ⟨g, hgs⟩ := hgs
      have HG := Lib.hid hgs
      rw [hgs] at kt
      have HB := Lib.hid hBw
      clear hWW hgs hB hBw hx
      have hklt : (k : Int) < px.length := by omega
      obtain ⟨t0, -⟩ := kt.at_ 0 (x := .int .i64 t.pc) rfl
      obtain ⟨t1, -⟩ := kt.at_ 1 (x := .slice Av t.v.length cv) rfl
      obtain ⟨t2, -⟩ := kt.at_ 2 (x := .slice Af t.f.length cf) rfl
      obtain ⟨y1, -⟩ := kpw.at_ 1 (x := .slice (some ⟨b, o, none⟩) px.length c) rfl
      have p0 := Past.cell kt.lt t0
      have p1 := Past.cell kt.lt t1
      have p2 := Past.cell kt.lt t2
      have p3 := Past.cell kpw.lt y1
      have p4 := Past.cell lbw hxw
      have hI := fun W : World => toB (l01In t.pc 0 code.length W)
      have hU := fun p : Past WW => toB (spec_BufOk _ t.f p.v (rbw.below p.hb))
      have hkx : k ≤ ths.length := by omega
      clear t0 t1 t2 y1
      cases hi : inB t.pc 0 code.length
      · rw [hi] at hI
        have HI := Lib.hid hI
        have HN : Hid ((ths.zip px).all (thQ pc) = false) := Lib.hid (allN_false HZ.out (by simp [thQ, thOk, hi]))
        clear hI hU hi
        go_wp2_with fail
        rw [← HWW.out, HG.out]
        refine wp_region_past (by kernel_rfl) (by kernel_rfl) ?_
        repeat (go_big_quiet_step (first | (go_at_call 53; exact Calls.past_of (HI.out _))))
        refine wpQuiet_nil ?_
        intro _ hw'
        obtain ⟨p, rfl⟩ := hw'
        go_wp2_with fail
        go_ret
        exact ⟨ret_bool (HF.out.trans HN.out).symm, HB.out.trans (p.hb.mono HB.out.size)⟩
      rw [hi] at hI
      have HI := Lib.hid hI
      clear hI
      by_cases hl : ¬ t.v.length = 4
      · have HN : Hid ((ths.zip px).all (thQ pc) = false) := Lib.hid (allN_false HZ.out (by simp [thQ, thOk, hl]))
        have e4 : ((t.v.length : Int) != 4) = true := by simp; omega
        clear hU hi hl
        go_wp2_with fail
        rw [← HWW.out, HG.out]
        refine wp_region_past (by kernel_rfl) (by kernel_rfl) ?_
        repeat (go_big_quiet_step (first | (go_at_call 53; exact Calls.past_of (HI.out _))))
        refine wpQuiet_nil ?_
        intro _ hw'
        obtain ⟨p, rfl⟩ := hw'
        go_wp2_with fail
        go_ret
        exact ⟨ret_bool (HF.out.trans HN.out).symm, HB.out.trans (p.hb.mono HB.out.size)⟩
      have hl := Classical.not_not.1 hl
      have e4 : ((t.v.length : Int) != 4) = false := by simp [hl]
      cases hbf : bufOk t.f
      · rw [hbf] at hU
        have HU := Lib.hid hU
        have HN : Hid ((ths.zip px).all (thQ pc) = false) := Lib.hid (allN_false HZ.out (by simp [thQ, thOk, hbf]))
        clear hU hi hl hbf
        go_wp2_with fail
        rw [← HWW.out, HG.out]
        refine wp_region_past (by kernel_rfl) (by kernel_rfl) ?_
        repeat (go_big_quiet_step (first | (go_at_call 53; exact Calls.past_of (HI.out _)) | (go_at_call 54; exact Calls.past_of (HU.out _))))
        refine wpQuiet_nil ?_
        intro _ hw'
        obtain ⟨p, rfl⟩ := hw'
        go_wp2_with fail
        go_ret
        exact ⟨ret_bool (HF.out.trans HN.out).symm, HB.out.trans (p.hb.mono HB.out.size)⟩
      rw [hbf] at hU
      have HU := Lib.hid hU
      have HQ : Hid (thQ pc (t, code) = (t.v.all valB && t.f.all (lowA pc))) := Lib.hid (by simp [thQ, thOk, hi, hl, hbf])
      have hl4 : t.v.length ≤ 4 := by omega
      have hf3 : t.f.length ≤ 3 := by simp only [bufOk, Bool.and_eq_true, decide_eq_true_eq] at hbf; exact hbf.1
      clear hU hi hl hbf
      go_wp2_with fail
      rw [← HWW.out, HG.out]
      refine wp_region_past (by kernel_rfl) (by kernel_rfl) ?_
      repeat (go_big_quiet_step (first | (go_at_call 53; exact Calls.past_of (HI.out _)) | (go_at_call 54; exact Calls.past_of (HU.out _))))
      refine wpQuiet_nil ?_
      intro _ hw'
      obtain ⟨p, rfl⟩ := hw'
      have KT := kt.below p.hb kt.lt
      have KP := kpw.below p.hb kpw.lt
      have KM := kmw.below p.hb kmw.lt
      have RV := raw.below p.hb
      have RF := rbw.below p.hb
      have HBp := Lib.hid (HB.out.trans (p.hb.mono HB.out.size))
      generalize p.v = W2 at KT KP KM RV RF HBp ⊢
      clear p0 p1 p2 p3 p4 kt kpw kmw hxw raw rbw HI HU HB HWW HG kp km z1 hx0 hx1 hx2 lb lbw ra1 rb1
      obtain ⟨t1, -⟩ := KT.at_ 1 (x := .slice Av t.v.length cv) rfl
      obtain ⟨t2, -⟩ := KT.at_ 2 (x := .slice Af t.f.length cf) rfl
      obtain ⟨y0, -⟩ := KP.at_ 0 (x := .int .i64 pc) rfl
      go_wp2_with fail
      go_loop [7] (fun i => ∃ m : Nat, m ≤ t.v.length ∧ i = .int .i64 m ∧ Hid ((t.v.take m).all valB = true)) (fun i => t.v.length - (intOf i).toNat)
      case atStart => exact ⟨0, Nat.zero_le _, rfl, Lib.hid (by simp)⟩
      case round =>
        obtain ⟨m, hm', rfl, HM⟩ := hrel
        by_cases hmlt : m < t.v.length
        · obtain ⟨Av', cv', hve, -, -, -, hrv'⟩ := id RV
          injection hve with hve1 _ hve3
          subst hve1 hve3
          obtain ⟨b2, o2, rfl, hb2, hcell2⟩ := hrv' (by omega)
          obtain ⟨x, hxm, hxc⟩ := int_at hcell2 hmlt
          have hC := l01Value x W2
          cases hok : valB x
          · rw [hok] at hC
            have HC := Lib.hid hC
            have HN : Hid ((ths.zip px).all (thQ pc) = false) := Lib.hid (allN_false HZ.out (by rw [HQ.out, allN_false hxm.out hok]; rfl))
            clear hC hok hcell2 hrv' RV RF
            go_wp2_with fail
            refine HC.out.mono ?_
            rintro e w9 ⟨rfl, rfl⟩
            go_wp2_with fail
            go_ret
            exact ⟨ret_bool (HF.out.trans HN.out).symm, HBp.out⟩
          · rw [hok] at hC
            have HC := Lib.hid hC
            have HN := Lib.hid (allN_snoc HM.out hxm.out hok)
            clear hC hok hcell2 hrv' RV RF
            go_wp2_with fail
            refine HC.out.mono ?_
            rintro e w9 ⟨rfl, rfl⟩
            go_wp2_with fail
            exact ⟨⟨m + 1, by omega, by go_num, HN⟩, by simp [intOf]; omega⟩
        · obtain rfl : m = t.v.length := by omega
          have hva := HM.out
          rw [List.take_length] at hva
          have HQ2 : Hid (thQ pc (t, code) = t.f.all (lowA pc)) := Lib.hid (by rw [HQ.out, hva]; rfl)
          clear hva HQ
          go_wp2_with fail
          go_loopw [8] (fun i wz => ∃ n nq : Nat, n ≤ t.f.length ∧ i = .int .i64 n ∧ Hid ((t.f.take n).all (lowA pc) = true) ∧ wz = W2.drewN nq) (fun i _ => t.f.length - (intOf i).toNat)
          case atStart => exact ⟨0, 0, Nat.zero_le _, rfl, Lib.hid (by simp), rfl⟩
          case round =>
            obtain ⟨n, nq, hn', rfl, HM2, rfl⟩ := hrel
            by_cases hnlt : n < t.f.length
            · obtain ⟨Af', cf', hfe, -, -, -, hrf'⟩ := id RF
              injection hfe with hfe1 _ hfe3
              subst hfe1 hfe3
              obtain ⟨b2, o2, rfl, hb2, hcell2⟩ := hrf' (by omega)
              obtain ⟨x, hxm, hxc0, hxc1⟩ := p2_at hcell2 hnlt
              have hnl' : (n : Int) < t.f.length := by omega
              cases hok : lowA pc x
              · have hge : decide (pc ≤ x.a) = true := by simp [lowA] at hok; simpa using hok
                have HN : Hid ((ths.zip px).all (thQ pc) = false) := Lib.hid (allN_false HZ.out (by rw [HQ2.out, allN_false hxm.out hok]))
                clear hok hcell2 hrf' RV RF
                go_wp2_with fail
                go_quiet (fail)
                go_wp2_with fail
                go_ret
                exact ⟨ret_bool (HF.out.trans HN.out).symm, below_more (below_more HBp.out _) _⟩
              · have hge : decide (pc ≤ x.a) = false := by simp [lowA] at hok; simpa using hok
                have HN := Lib.hid (allN_snoc HM2.out hxm.out hok)
                clear hok hcell2 hrf' RV RF
                go_wp2_with fail
                go_quiet (fail)
                go_wp2_with fail
                exact ⟨⟨n + 1, _, by omega, by go_num, HN, rfl⟩, by simp [intOf]; omega⟩
            · obtain rfl : n = t.f.length := by omega
              have hva := HM2.out
              rw [List.take_length] at hva
              have HN : Hid (((ths.zip px).take (k + 1)).all (thQ pc) = true) := Lib.hid (allN_snoc HA.out HZ.out (HQ2.out.trans hva))
              clear hva
              go_wp2_with fail
              exact ⟨⟨k + 1, by omega, by go_num, HN, below_more HBp.out _, KP.drewN _, KM.drewN _⟩, by simp [intOf]; omega⟩
    · obtain rfl : k = ths.length := by omega
      have HN := HA.out
      rw [List.take_of_length_le (by rw [List.length_zip]; omega)] at HN
      have HN := Lib.hid HN
      clear hcT hcell hr hin hinT
      go_wp2_with fail
      go_ret
      exact ⟨ret_bool (HF.out.trans HN.out).symm, hB⟩
end Go.Proofs.Ytiflooopfpcelaa

/- Contracts of impl.MachineOk and the methods of a thread that it and Moves ask. Condition: the program and the machine can be read. -/
namespace Go.Proofs.Ytiflooopfpcelaa
set_option maxRecDepth 20000
set_option linter.unusedSimpArgs false
set_option linter.unusedVariables false
open Go.ChangeShapes Go.WideShapes Go.ChangeAt Go.RowKit
set_option maxHeartbeats 3200000 in
theorem impl_thValid (t : Th) (a f v : Value) (code : List Ins) (pc : Int) (w : World) (ha : Rd w a 1 t.v.length (ints t.v)) (hf : Rd w f 2 t.f.length (flc2 t.f)) (hv : Rd w v 4 code.length (flc code)) :
    Calls Try.prog 61 #[.agg #[.int .i64 t.pc, a, f], v, .int .i64 pc] w fun e w' => e = .returned (.bool (thOk pc t code)) ∧ Below w.heap.size w w' := by
  obtain ⟨A, c, rfl, -, hnc, hc, hr⟩ := id ha
  obtain ⟨B, d, rfl, -, hnd, hd, hr2⟩ := id hf
  obtain ⟨C, cc, rfl, -, hncc, hccc, -⟩ := id hv
  unfold maxLen at hc hd hccc
  have hB := (Below.refl w.heap.size w).alloc (Nat.le_refl _) (.cells #[.int .i64 t.pc, .slice A t.v.length c, .slice B t.f.length d] 71)
  have K := Bk.new w #[.int .i64 t.pc, .slice A t.v.length c, .slice B t.f.length d] 71
  have HB := Lib.hid hB
  have haw := ha.below hB
  have hfw := hf.below hB
  clear hB hr hr2 ha hf
  by_cases hi : ¬ (0 ≤ t.pc ∧ t.pc ≤ code.length)
  · have HN : Hid (thOk pc t code = false) := Lib.hid (by
      have : inB t.pc 0 code.length = false := by
        cases h : inB t.pc 0 code.length
        · rfl
        · exact absurd (inB_true h) hi
      simp [thOk, this])
    have hcase : t.pc < 0 ∨ (0 ≤ t.pc ∧ (code.length : Int) < t.pc) := by omega
    clear hi
    rcases hcase with h1 | ⟨h1, h2⟩
    all_goals
      go_enter Try.func61, Try.ntmps61
      go_wp2_with fail
      go_ret
      exact ⟨ret_bool HN.out.symm, HB.out⟩
  have hi := Classical.not_not.1 hi
  have hib : inB t.pc 0 code.length = true := by simp [inB, hi.1, hi.2]
  by_cases hl : ¬ t.v.length = 4
  · have HN : Hid (thOk pc t code = false) := Lib.hid (by simp [thOk, hl])
    have e4 : ((t.v.length : Int) != 4) = true := by simp; omega
    clear hl hib
    go_enter Try.func61, Try.ntmps61
    go_wp2_with fail
    go_ret
    exact ⟨ret_bool HN.out.symm, HB.out⟩
  have hl := Classical.not_not.1 hl
  have e4 : ((t.v.length : Int) != 4) = false := by simp [hl]
  have hC := impl_BufOk _ t.f _ hfw
  cases hbf : bufOk t.f
  · rw [hbf] at hC
    have HC := Lib.hid hC
    have HN : Hid (thOk pc t code = false) := Lib.hid (by simp [thOk, hbf])
    clear hl hib hbf hC
    go_enter Try.func61, Try.ntmps61
    go_wp2_with fail
    refine HC.out.mono ?_
    rintro e w1 ⟨rfl, hb1⟩
    go_wp2_with fail
    go_ret
    exact ⟨ret_bool HN.out.symm, HB.out.trans (hb1.mono HB.out.size)⟩
  rw [hbf] at hC
  have HC := Lib.hid hC
  have HQ : Hid (thOk pc t code = (t.v.all valB && t.f.all (lowA pc))) := Lib.hid (by simp [thOk, hib, hl, hbf])
  have hl4 : t.v.length ≤ 4 := by omega
  have hf3 : t.f.length ≤ 3 := by simp only [bufOk, Bool.and_eq_true, decide_eq_true_eq] at hbf; exact hbf.1
  clear hl hib hbf hC
  go_enter Try.func61, Try.ntmps61
  go_wp2_with fail
  refine HC.out.mono ?_
  rintro e w1 ⟨rfl, hb1⟩
  have KT := K.below hb1 K.lt
  have RV := haw.below hb1
  have RF := hfw.below hb1
  have hBp := HB.out.trans (hb1.mono HB.out.size)
  obtain ⟨t1, -⟩ := KT.at_ 1 (x := .slice A t.v.length c) rfl
  obtain ⟨t2, -⟩ := KT.at_ 2 (x := .slice B t.f.length d) rfl
  clear HC HB hb1 haw hfw K
  go_wp2_with fail
  go_loop [8, 36] (fun x i => ∃ m : Nat, m ≤ t.v.length ∧ i = .int .i64 m ∧ Hid ((t.v.take m).all valB = true)) (fun _ i => t.v.length - (intOf i).toNat)
  case atStart => exact ⟨0, Nat.zero_le _, rfl, Lib.hid (by simp)⟩
  case round =>
    obtain ⟨m, hm', rfl, HM⟩ := hrel
    by_cases hmlt : m < t.v.length
    · obtain ⟨Av', cv', hve, -, -, -, hrv'⟩ := id RV
      injection hve with hve1 _ hve3
      subst hve1 hve3
      obtain ⟨b2, o2, rfl, hb2, hcell2⟩ := hrv' (by omega)
      obtain ⟨x, hxm, hxc⟩ := int_at hcell2 hmlt
      have hC := impl_valueOk x w1
      cases hok : valB x
      · rw [hok] at hC
        have HC := Lib.hid hC
        have HN : Hid (thOk pc t code = false) := Lib.hid (by rw [HQ.out, allN_false hxm.out hok]; rfl)
        clear hC hok hcell2 hrv' RV RF
        go_wp2_with fail
        refine HC.out.mono ?_
        rintro e w9 ⟨rfl, rfl⟩
        go_wp2_with fail
        go_ret
        exact ⟨ret_bool HN.out.symm, hBp⟩
      · rw [hok] at hC
        have HC := Lib.hid hC
        have HN := Lib.hid (allN_snoc HM.out hxm.out hok)
        clear hC hok hcell2 hrv' RV RF
        go_wp2_with fail
        refine HC.out.mono ?_
        rintro e w9 ⟨rfl, rfl⟩
        go_wp2_with fail
        exact ⟨⟨m + 1, by omega, by go_num, HN⟩, by simp [intOf]; omega⟩
    · obtain rfl : m = t.v.length := by omega
      have hva := HM.out
      rw [List.take_length] at hva
      have HQ2 : Hid (thOk pc t code = t.f.all (lowA pc)) := Lib.hid (by rw [HQ.out, hva]; rfl)
      clear hva HQ
      go_wp2_with fail
      go_loopw [10, 47] (fun s i wz => ∃ n : Nat, n ≤ t.f.length ∧ i = .int .i64 n ∧ Hid ((t.f.take n).all (lowA pc) = true) ∧ Below w1.heap.size w1 wz) (fun _ i _ => t.f.length - (intOf i).toNat)
      case atStart => exact ⟨0, Nat.zero_le _, rfl, Lib.hid (by simp), Below.refl _ _⟩
      case round =>
        obtain ⟨n, hn', rfl, HM2, hBz⟩ := hrel
        by_cases hnlt : n < t.f.length
        · obtain ⟨Af', cf', hfe, -, -, -, hrf'⟩ := id RF
          injection hfe with hfe1 _ hfe3
          subst hfe1 hfe3
          obtain ⟨b2, o2, rfl, hb2, hcell2⟩ := hrf' (by omega)
          obtain ⟨x, hxm, hxc0, hxc1⟩ := p2_at (fun j u hu => (hBz.cell (p := ⟨b2, o2 + j, none⟩) hb2).trans (hcell2 j u hu)) hnlt
          have hnl' : (n : Int) < t.f.length := by omega
          cases hok : lowA pc x
          · have hge : decide (pc ≤ x.a) = true := by simp [lowA] at hok; simpa using hok
            have HN : Hid (thOk pc t code = false) := Lib.hid (by rw [HQ2.out, allN_false hxm.out hok])
            clear hok hcell2 hrf' RV RF
            go_wp2_with fail
            go_ret
            exact ⟨ret_bool HN.out.symm, (hBp.trans (hBz.mono hBp.size)).alloc (by have := hBp.size; have := hBz.size; omega) _⟩
          · have hge : decide (pc ≤ x.a) = false := by simp [lowA] at hok; simpa using hok
            have HN := Lib.hid (allN_snoc HM2.out hxm.out hok)
            clear hok hcell2 hrf' RV RF
            go_wp2_with fail
            exact ⟨⟨n + 1, by omega, by go_num, HN, hBz.alloc hBz.size _⟩, by simp [intOf]; omega⟩
        · obtain rfl : n = t.f.length := by omega
          have hva := HM2.out
          rw [List.take_length] at hva
          have HN : Hid (thOk pc t code = true) := Lib.hid (HQ2.out.trans hva)
          clear hva
          go_wp2_with fail
          go_ret
          exact ⟨ret_bool HN.out.symm, hBp.trans (hBz.mono hBp.size)⟩
set_option maxHeartbeats 400000 in
theorem impl_atEnd (t : Th) (a f v : Value) (code : List Ins) (w : World) (hv : ∃ A c, v = .slice A code.length c) :
    Calls Try.prog 78 #[.agg #[.int .i64 t.pc, a, f], v] w fun e w' => e = .returned (.bool (endT t code)) ∧ Below w.heap.size w w' := by
  obtain ⟨A, c, rfl⟩ := hv
  have HB := Lib.hid ((Below.refl w.heap.size w).alloc (Nat.le_refl _) (.cells #[.int .i64 t.pc, a, f] 71))
  by_cases h : t.pc = code.length
  · have e : ((t.pc : Int) == (code.length : Int)) = true := by simp [h]
    have HN : Hid (endT t code = true) := Lib.hid (by simp [endT, h])
    clear h
    go_enter Try.func78, Try.ntmps78
    go_wp2_with fail
    go_ret
    exact ⟨ret_bool HN.out.symm, HB.out⟩
  · have e : ((t.pc : Int) == (code.length : Int)) = false := by simp [h]
    have HN : Hid (endT t code = false) := Lib.hid (by simp [endT, h])
    clear h
    go_enter Try.func78, Try.ntmps78
    go_wp2_with fail
    go_ret
    exact ⟨ret_bool HN.out.symm, HB.out⟩
set_option maxHeartbeats 400000 in
theorem impl_canDrain (t : Th) (a f : Value) (w : World) (hf : ∃ A c, f = .slice A t.f.length c) :
    Calls Try.prog 75 #[.agg #[.int .i64 t.pc, a, f]] w fun e w' => e = .returned (.bool (canDr t)) ∧ Below w.heap.size w w' := by
  obtain ⟨A, c, rfl⟩ := hf
  have HB := Lib.hid ((Below.refl w.heap.size w).alloc (Nat.le_refl _) (.cells #[.int .i64 t.pc, a, .slice A t.f.length c] 71))
  by_cases h : 0 < t.f.length
  · have HN : Hid (canDr t = true) := Lib.hid (by simp [canDr, h])
    go_enter Try.func75, Try.ntmps75
    go_wp2_with fail
    go_ret
    exact ⟨ret_bool HN.out.symm, HB.out⟩
  · have HN : Hid (canDr t = false) := Lib.hid (by simp only [canDr, decide_eq_false_iff_not]; exact h)
    go_enter Try.func75, Try.ntmps75
    go_wp2_with fail
    go_ret
    exact ⟨ret_bool HN.out.symm, HB.out⟩
end Go.Proofs.Ytiflooopfpcelaa

/- Contracts of canExecute and l04Can: whether a thread can move. Condition: the machine is valid, the thread exists. -/
namespace Go.Proofs.Ytiflooopfpcelaa
set_option maxRecDepth 20000
set_option linter.unusedSimpArgs false
set_option linter.unusedVariables false
open Go.ChangeShapes Go.WideShapes Go.ChangeAt Go.RowKit
set_option maxHeartbeats 1600000 in
theorem impl_canExecute (t : Th) (a f v : Value) (code : List Ins) (w : World) (hv : Rd w v 4 code.length (flc code)) (hf : ∃ A c, f = .slice A t.f.length c) (hpc : inB t.pc 0 code.length = true) :
    Calls Try.prog 74 #[.agg #[.int .i64 t.pc, a, f], v] w fun e w' => e = .returned (.bool (canEx t code)) ∧ Below w.heap.size w w' := by
  obtain ⟨A, c, rfl⟩ := hf
  obtain ⟨C, cc, rfl, -, hncc, hccc, hr⟩ := id hv
  unfold maxLen at hccc
  have hB := (Below.refl w.heap.size w).alloc (Nat.le_refl _) (.cells #[.int .i64 t.pc, a, .slice A t.f.length c] 71)
  have K := Bk.new w #[.int .i64 t.pc, a, .slice A t.f.length c] 71
  have hC := fun W => impl_atEnd t a (.slice A t.f.length c) (.slice C code.length cc) code W ⟨_, _, rfl⟩
  have HB := Lib.hid hB
  clear hB
  cases he : endT t code
  case true =>
    rw [he] at hC
    have HC := Lib.hid hC
    have HN : Hid (canEx t code = false) := Lib.hid (by simp [canEx, he])
    clear hC he hr
    go_enter Try.func74, Try.ntmps74
    go_wp2_with fail
    refine (HC.out _).mono ?_
    rintro e w1 ⟨rfl, hb1⟩
    go_wp2_with fail
    go_ret
    exact ⟨ret_bool HN.out.symm, HB.out.trans (hb1.mono HB.out.size)⟩
  case false =>
    rw [he] at hC
    have HC := Lib.hid hC
    have hi := inB_true hpc
    have hlt : t.pc.toNat < code.length := by simp only [endT, decide_eq_false_iff_not] at he; omega
    obtain ⟨k, hk⟩ : ∃ k : Nat, t.pc = k := ⟨t.pc.toNat, by omega⟩
    have hkl : k < code.length := by omega
    obtain ⟨b, o, rfl, hb, hcell⟩ := hr (by omega)
    obtain ⟨i, hik, hx0, hx1, hx2, hx3⟩ := ins_at hcell hkl
    have HI : Hid (insAt t code = i) := Lib.hid (by
      unfold insAt
      rw [hk, Int.toNat_natCast, List.getD_eq_getElem?_getD, hik.out]
      rfl)
    have hklt : (k : Int) < code.length := by omega
    have HE := Lib.hid he
    clear hC he hr hcell hlt hi hpc
    rw [hk] at K HB HC ⊢
    go_enter Try.func74, Try.ntmps74
    go_wp2_with fail
    refine (HC.out _).mono ?_
    rintro e w1 ⟨rfl, hb1⟩
    have hB1 := HB.out.trans (hb1.mono HB.out.size)
    have K1 := K.below hb1 K.lt
    obtain ⟨t0, -⟩ := K1.at_ 0 (x := .int .i64 k) rfl
    obtain ⟨t2, -⟩ := K1.at_ 2 (x := .slice A t.f.length c) rfl
    have y0 := (hB1.cell (p := ⟨b, o + k * 4, none⟩) hb).trans hx0
    have y1 := (hB1.cell (p := ⟨b, o + k * 4 + 1, none⟩) hb).trans hx1
    have y2 := (hB1.cell (p := ⟨b, o + k * 4 + 2, none⟩) hb).trans hx2
    have y3 := (hB1.cell (p := ⟨b, o + k * 4 + 3, none⟩) hb).trans hx3
    have HB1 := Lib.hid hB1
    clear hB1 HB hb1 HC hx0 hx1 hx2 hx3
    go_wp2_with fail
    refine (ins_op i _).mono ?_
    rintro e w2 ⟨rfl, hb2⟩
    have hBi := HB1.out.alloc HB1.out.size (.cells #[.int .i64 i.o, .int .i64 i.r, .int .i64 i.s, .int .i64 i.n] 118)
    have hB2 := hBi.trans (hb2.mono hBi.size)
    have K2 := (K1.alloc (.cells #[.int .i64 i.o, .int .i64 i.r, .int .i64 i.s, .int .i64 i.n] 118)).below hb2 (by simp; have := K1.lt; omega)
    have J2 := (Bk.new w1 #[.int .i64 i.o, .int .i64 i.r, .int .i64 i.s, .int .i64 i.n] 118).below hb2 (by simp)
    obtain ⟨t2', -⟩ := K2.at_ 2 (x := .slice A t.f.length c) rfl
    obtain ⟨j0, -⟩ := J2.at_ 0 (x := .int .i64 i.o) rfl
    obtain ⟨j1, -⟩ := J2.at_ 1 (x := .int .i64 i.r) rfl
    obtain ⟨j2, -⟩ := J2.at_ 2 (x := .int .i64 i.s) rfl
    obtain ⟨j3, -⟩ := J2.at_ 3 (x := .int .i64 i.n) rfl
    have HB2 := Lib.hid hB2
    clear hB2 hBi HB1 hb2 y0 y1 y2 y3 t0 t2
    by_cases h3 : i.o = 3
    · have e3 : (i.o == 3) = true := by simp [h3]
      have HN : Hid (canEx t code = decide ((t.f.length : Int) < 3)) := Lib.hid (by
        unfold canEx
        rw [HE.out, HI.out, if_neg (by simp), if_pos h3]
        by_cases hf : t.f.length < 3
        · rw [decide_eq_true hf, decide_eq_true (by omega)]
        · rw [decide_eq_false hf, decide_eq_false (by omega)])
      clear h3
      go_wp2_with fail
      go_ret
      exact ⟨ret_bool HN.out.symm, HB2.out⟩
    · have e3 : (i.o == 3) = false := by simp [h3]
      by_cases hf : t.f.length = 0
      · have HN : Hid (canEx t code = true) := Lib.hid (by unfold canEx; rw [HE.out, HI.out]; simp [h3, hf])
        have e0 : ((t.f.length : Int) == 0) = true := by simp [hf]
        clear h3 hf
        go_wp2_with fail
        go_ret
        exact ⟨ret_bool HN.out.symm, HB2.out⟩
      · have e0 : ((t.f.length : Int) == 0) = false := by simp only [beq_eq_false_iff_ne]; omega
        have HN : Hid (canEx t code = !fenceB i) := Lib.hid (by unfold canEx; rw [HE.out, HI.out]; simp [h3, hf])
        clear h3 hf
        cases hfb : fenceB i
        all_goals
          have hH := fun W => impl_HasFence i W
          rw [hfb] at hH HN
          have HH := Lib.hid hH
          clear hH hfb
          go_wp2_with fail
          refine (HH.out _).mono ?_
          rintro e w3 ⟨rfl, hb3⟩
          go_wp2_with fail
          go_ret
          exact ⟨ret_bool HN.out.symm, HB2.out.trans (hb3.mono HB2.out.size)⟩
/-- a machine that is well, and a thread of it -/
structure Well (p : Pr) (M : Ma) (k : Nat) (t : Th) (code : List Ins) : Prop where
  ok : machOk p M = true
  ht : M.ths[k]? = some t
  hc : p.x[k]? = some code
theorem Well.th {p : Pr} {M : Ma} {k : Nat} {t : Th} {code : List Ins} (h : Well p M k t code) : thOk p.c t code = true := machOk_th h.ok h.ht h.hc
theorem Well.canAt {p : Pr} {M : Ma} {k : Nat} {t : Th} {code : List Ins} (h : Well p M k t code) (d : Bool) : canAt p M ⟨k, d⟩ = canT d t code := by
  unfold Proofs.Ytiflooopfpcelaa.canAt
  simp only [Int.toNat_natCast, List.getD_eq_getElem?_getD, h.ht, h.hc, Option.getD_some]
theorem well_of {p : Pr} {M : Ma} (h : machOk p M = true) {k : Nat} (hk : k < M.ths.length) : ∃ t code, Well p M k t code := by
  have ht : M.ths[k]? = some M.ths[k] := List.getElem?_eq_getElem hk
  obtain ⟨-, -, -, h4, -⟩ := machOk_parts h
  obtain ⟨code, hc⟩ := code_at h4 ht
  exact ⟨_, _, h, ht, hc⟩
set_option maxHeartbeats 6400000 in
theorem l04Can (v mv tv : Value) (p : Pr) (M : Ma) (k : Nat) (d : Bool) (t : Th) (code : List Ins) (w : World) (h : RdSS w v p.x) (hm : RdMa w mv tv M) (hW : Well p M k t code) :
    Calls Try.prog 71 #[.agg #[.int .i64 p.c, v], .agg #[mv, tv], .agg #[.int .i64 k, .bool d]] w fun e w' => e = .returned (.bool (canT d t code)) ∧ Below w.heap.size w w' := by
  obtain ⟨A0, c0, B0, d0, rfl, rfl, -, hBd, hcc, hdc⟩ := hm.slices
  obtain ⟨vsT, hvl, ⟨A', c', hAe, -, -, -, hrT⟩, hinT⟩ := hm.ths
  injection hAe with hAe1 _ hAe3
  subst hAe1 hAe3
  obtain ⟨vs, ⟨A, c, rfl, -, hnc, hc, hr⟩, hin⟩ := h
  unfold maxLen at hc
  have hkt := (List.getElem?_eq_some_iff.1 hW.ht).1
  have hkc := (List.getElem?_eq_some_iff.1 hW.hc).1
  obtain ⟨bT, oT, rfl, hbT, hcT⟩ := hrT (by omega)
  obtain ⟨b, o, rfl, hb, hcell⟩ := hr (by omega)
  have hW0 := (((Below.refl w.heap.size w).alloc (Nat.le_refl _) (.cells #[.int .i64 p.c, .slice (some ⟨b, o, none⟩) p.x.length c] 36)).alloc (by simp) (.cells #[.slice A0 M.mem.length c0, .slice (some ⟨bT, oT, none⟩) M.ths.length d0] 41)).alloc (by simp; omega) (.cells #[.int .i64 k, .bool d] 54)
  obtain ⟨t', a1, a2, HT, HPv, hx0, hx1, hx2⟩ := th_at hvl hcT hkt hW0 hbT
  obtain rfl : t' = t := Option.some.inj (HT.out.symm.trans hW.ht)
  obtain ⟨ra, rb⟩ := hinT k t' (a1, a2) HT.out HPv.out
  obtain ⟨ck, hck, hrk⟩ := hin.at_ hW.hc
  obtain ⟨Ak, dk, rfl, -, hnk, hdk, hrk2⟩ := id hrk
  unfold maxLen at hdk
  obtain ⟨Av, cv, rfl, -, hnv, hcv, -⟩ := id ra
  obtain ⟨Af, cf, rfl, -, hnf, hcf, -⟩ := id rb
  have hth := hW.th
  have hpc := inB_true (thOk_parts hth).1
  have hf3 : t'.f.length ≤ 3 := by have := (thOk_parts hth).2.2.1; simp only [bufOk, Bool.and_eq_true, decide_eq_true_eq] at this; exact this.1
  obtain ⟨j, hj⟩ : ∃ j : Nat, t'.pc = j := ⟨t'.pc.toNat, by omega⟩
  rw [hj] at hx0 hpc
  clear hinT hrT hcT hin hr HPv HT hth ra rb
  have hklt : (k : Int) < M.ths.length := by omega
  have hklt' : (k : Int) < p.x.length := by omega
  have hxw := (hW0.cell (p := ⟨b, o + k, none⟩) hb).trans (hcell k _ hck)
  have hcell2 := hcell k _ hck
  clear hcell hck
  cases hd : d
  case true =>
    subst hd
    have HB := Lib.hid hW0
    clear hW0 hxw hrk hrk2
    by_cases hf : 0 < t'.f.length
    · have HN : Hid (canT true t' code = true) := Lib.hid (by simp [canT, canDr, hf])
      go_enter Try.func71, Try.ntmps71
      go_wp2_with fail
      go_ret
      exact ⟨ret_bool HN.out.symm, (HB.out.alloc HB.out.size _)⟩
    · have HN : Hid (canT true t' code = false) := Lib.hid (by simp only [canT, canDr, if_true, decide_eq_false_iff_not]; exact hf)
      go_enter Try.func71, Try.ntmps71
      go_wp2_with fail
      go_ret
      exact ⟨ret_bool HN.out.symm, (HB.out.alloc HB.out.size _)⟩
  case false =>
    subst hd
    have hBT := hW0.alloc hW0.size (.cells #[.int .i64 j, .slice Av t'.v.length cv, .slice Af t'.f.length cf] 71)
    have KP := (((Bk.new w #[.int .i64 p.c, .slice (some ⟨b, o, none⟩) p.x.length c] 36).alloc (.cells #[.slice A0 M.mem.length c0, .slice (some ⟨bT, oT, none⟩) M.ths.length d0] 41)).alloc (.cells #[.int .i64 k, .bool false] 54)).alloc (.cells #[.int .i64 j, .slice Av t'.v.length cv, .slice Af t'.f.length cf] 71)
    have KV := (Bk.new ((w.alloc (.cells #[.int .i64 p.c, .slice (some ⟨b, o, none⟩) p.x.length c] 36)).alloc (.cells #[.slice A0 M.mem.length c0, .slice (some ⟨bT, oT, none⟩) M.ths.length d0] 41)) #[.int .i64 k, .bool false] 54).alloc (.cells #[.int .i64 j, .slice Av t'.v.length cv, .slice Af t'.f.length cf] 71)
    have KT := Bk.new (((w.alloc (.cells #[.int .i64 p.c, .slice (some ⟨b, o, none⟩) p.x.length c] 36)).alloc (.cells #[.slice A0 M.mem.length c0, .slice (some ⟨bT, oT, none⟩) M.ths.length d0] 41)).alloc (.cells #[.int .i64 k, .bool false] 54)) #[.int .i64 j, .slice Av t'.v.length cv, .slice Af t'.f.length cf] 71
    simp only [World.size_alloc] at KT KV
    have hxT := (hBT.cell (p := ⟨b, o + k, none⟩) hb).trans (hcell2)
    have hrT := hrk.below hBT
    have hbT2 := Nat.lt_of_lt_of_le hb hBT.size
    obtain ⟨WW, hWW⟩ : ∃ WW, WW = (((w.alloc (.cells #[.int .i64 p.c, .slice (some ⟨b, o, none⟩) p.x.length c] 36)).alloc (.cells #[.slice A0 M.mem.length c0, .slice (some ⟨bT, oT, none⟩) M.ths.length d0] 41)).alloc (.cells #[.int .i64 k, .bool false] 54)).alloc (.cells #[.int .i64 j, .slice Av t'.v.length cv, .slice Af t'.f.length cf] 71) := ⟨_, rfl⟩
    rw [← hWW] at hBT KP KV KT hxT hrT hbT2
    have HWW := Lib.hid hWW
    have HBT := Lib.hid hBT
    clear hWW hBT hxw hW0 hrk2 hrk
    obtain ⟨y0, -⟩ := KT.at_ 0 (x := .int .i64 j) rfl
    obtain ⟨y1, -⟩ := KP.at_ 1 (x := .slice (some ⟨b, o, none⟩) p.x.length c) rfl
    obtain ⟨y2, -⟩ := KV.at_ 0 (x := .int .i64 k) rfl
    by_cases he : (j : Int) = code.length
    · have e1 : ((j : Int) == (code.length : Int)) = true := by simp [he]
      have HN : Hid (canT false t' code = false) := Lib.hid (by simp [canT, canEx, endT, hj, he])
      clear he
      go_enter Try.func71, Try.ntmps71
      go_wp2_with fail
      rw [← HWW.out]
      go_quiet (fail)
      go_wp2_with fail
      go_ret
      exact ⟨ret_bool HN.out.symm, below_more HBT.out _⟩
    · have e1 : ((j : Int) == (code.length : Int)) = false := by simp only [beq_eq_false_iff_ne]; exact he
      have hjl : j < code.length := by omega
      have HE : Hid (endT t' code = false) := Lib.hid (by simp [endT, hj, he])
      obtain ⟨Ak', dk', hAk, -, -, -, hrk2⟩ := id hrT
      injection hAk with hAk1 _ hAk3
      subst hAk1 hAk3
      obtain ⟨b2, o2, rfl, hb2, hcell2'⟩ := hrk2 (by omega)
      obtain ⟨i, hik, hi0, hi1, hi2, hi3⟩ := ins_at hcell2' hjl
      have HI : Hid (insAt t' code = i) := Lib.hid (by
        unfold insAt
        rw [hj, Int.toNat_natCast, List.getD_eq_getElem?_getD, hik.out]
        rfl)
      have hjl' : (j : Int) < code.length := by omega
      have lT := KT.lt
      have lP := KP.lt
      have lV := KV.lt
      clear he hcell2' hrk2 hrT
      go_enter Try.func71, Try.ntmps71
      go_wp2_with fail
      rw [← HWW.out]
      go_quiet (fail)
      have z0 : (WW.drewN nq).cell? ⟨w.heap.size + 1 + 1 + 1, 0, none⟩ = some (.int .i64 j) := y0
      have z1 : (WW.drewN nq).cell? ⟨w.heap.size, 1, none⟩ = some (.slice (some ⟨b, o, none⟩) p.x.length c) := y1
      have z2 : (WW.drewN nq).cell? ⟨w.heap.size + 1 + 1, 0, none⟩ = some (.int .i64 k) := y2
      have zx : (WW.drewN nq).cell? ⟨b, o + k, none⟩ = some (.slice (some ⟨b2, o2, none⟩) code.length dk) := hxT
      have zi0 : (WW.drewN nq).cell? ⟨b2, o2 + j * 4, none⟩ = some (.int .i64 i.o) := hi0
      have zi1 : (WW.drewN nq).cell? ⟨b2, o2 + j * 4 + 1, none⟩ = some (.int .i64 i.r) := hi1
      have zi2 : (WW.drewN nq).cell? ⟨b2, o2 + j * 4 + 2, none⟩ = some (.int .i64 i.s) := hi2
      have zi3 : (WW.drewN nq).cell? ⟨b2, o2 + j * 4 + 3, none⟩ = some (.int .i64 i.n) := hi3
      have KT5 : Bk (WW.drewN nq) (w.heap.size + 1 + 1 + 1) #[.int .i64 j, .slice Av t'.v.length cv, .slice Af t'.f.length cf] 71 := KT
      have HB5 := Lib.hid (below_more HBT.out nq)
      have lT5 : w.heap.size + 1 + 1 + 1 < (WW.drewN nq).heap.size := lT
      have lP5 : w.heap.size < (WW.drewN nq).heap.size := lP
      have lV5 : w.heap.size + 1 + 1 < (WW.drewN nq).heap.size := lV
      have lb5 : b < (WW.drewN nq).heap.size := hbT2
      have lc5 : b2 < (WW.drewN nq).heap.size := hb2
      go_upto_region 6 with (fail)
      generalize WW.drewN nq = W5 at z0 z1 z2 zx zi0 zi1 zi2 zi3 KT5 HB5 lT5 lP5 lV5 lb5 lc5 ⊢
      clear y0 y1 y2 hxT hi0 hi1 hi2 hi3 KT KP KV lT lP lV hbT2 hb2 HBT
      obtain ⟨u2, -⟩ := KT5.at_ 2 (x := .slice Af t'.f.length cf) rfl
      by_cases h3 : i.o = 3
      · have e3 : (i.o == 3) = true := by simp [h3]
        have HN : Hid (canT false t' code = decide ((t'.f.length : Int) < 3)) := Lib.hid (by
          unfold canT canEx
          rw [HE.out, HI.out, if_neg (by simp), if_neg (by simp), if_pos h3]
          by_cases hf : t'.f.length < 3
          · rw [decide_eq_true hf, decide_eq_true (by omega)]
          · rw [decide_eq_false hf, decide_eq_false (by omega)])
        clear h3
        go_region
        all_goals go_wp2_with fail
        all_goals go_ret
        all_goals exact ⟨ret_bool HN.out.symm, (below_more HB5.out _).alloc (below_more HB5.out _).size _⟩
      · have e3 : (i.o == 3) = false := by simp [h3]
        have HN : Hid (canT false t' code = (!fenceB i || decide (t'.f.length = 0))) := Lib.hid (by
          unfold canT canEx
          rw [HE.out, HI.out, if_neg (by simp), if_neg (by simp), if_neg h3])
        have e0 : ∃ bz : Bool, ((t'.f.length : Int) == 0) = bz ∧ bz = decide (t'.f.length = 0) := ⟨_, rfl, by
          by_cases hf : t'.f.length = 0
          · simp [hf]
          · simp [hf]⟩
        obtain ⟨bz, e0, ez⟩ := e0
        rw [← ez] at HN
        clear h3 ez
        go_region
        all_goals
          cases hfb : fenceB i <;> cases bz
          all_goals
            have hH := fun W => spec_HasFence i W
            rw [hfb] at hH HN
            have HH := Lib.hid hH
            clear hH hfb
            go_wp2_with fail
            refine (HH.out _).mono ?_
            rintro e w3 ⟨rfl, hb3⟩
            have hB6 : Below w.heap.size w w3 := by
              refine Below.trans ?_ (hb3.mono ?_)
              · exact (below_more HB5.out _).alloc (below_more HB5.out _).size _
              · exact ((below_more HB5.out _).alloc (below_more HB5.out _).size _).size
            obtain ⟨u2', -⟩ := ((Bk.alloc (Bk.drewN KT5 _) (.cells #[.int .i64 i.o, .int .i64 i.r, .int .i64 i.s, .int .i64 i.n] 118)).below hb3 (by simp; omega)).at_ 2 (x := .slice Af t'.f.length cf) rfl
            have HB6 := Lib.hid hB6
            clear hB6 hb3
            go_wp2_with fail
            go_ret
            exact ⟨ret_bool HN.out.symm, HB6.out⟩
end Go.Proofs.Ytiflooopfpcelaa

/- Contract of impl.MachineOk. Condition: the program and the machine can be read. -/
namespace Go.Proofs.Ytiflooopfpcelaa
set_option maxRecDepth 20000
set_option linter.unusedSimpArgs false
set_option linter.unusedVariables false
open Go.ChangeShapes Go.WideShapes Go.ChangeAt Go.RowKit
set_option maxHeartbeats 6400000 in
theorem impl_MachineOk (v mv tv : Value) (p : Pr) (M : Ma) (w : World) (h : RdSS w v p.x) (hm : RdMa w mv tv M) :
    Calls Try.prog 16 #[.agg #[.int .i64 p.c, v], .agg #[mv, tv]] w fun e w' => e = .returned (.bool (machOk p M)) ∧ Below w.heap.size w w' := by
  obtain ⟨A0, c0, B0, d0, rfl, rfl, -, hBd, hcc, hdc⟩ := hm.slices
  have hmem := hm.mem
  obtain ⟨vsT, hvl, ⟨A', c', hAe, -, -, -, hrT⟩, hinT⟩ := hm.ths
  injection hAe with hAe1 _ hAe3
  subst hAe1 hAe3
  have hpR := h
  obtain ⟨vs, ⟨A, c, rfl, -, hnc, hc, hr⟩, hin⟩ := h
  unfold maxLen at hc
  obtain ⟨pc, px⟩ := p
  obtain ⟨mem, ths⟩ := M
  simp only at *
  have hB0 := ((Below.refl w.heap.size w).alloc (Nat.le_refl _) (.cells #[.int .i64 pc, .slice A px.length c] 36)).alloc (by simp) (.cells #[.slice A0 mem.length c0, .slice B0 ths.length d0] 41)
  have k0 := (Bk.new w #[.int .i64 pc, .slice A px.length c] 36).alloc (.cells #[.slice A0 mem.length c0, .slice B0 ths.length d0] 41)
  have k1 := Bk.new (w.alloc (.cells #[.int .i64 pc, .slice A px.length c] 36)) #[.slice A0 mem.length c0, .slice B0 ths.length d0] 41
  simp only [World.size_alloc] at k1
  have hC1 := impl_ProgOk _ ⟨pc, px⟩ _ (hpR.below hB0)
  have HB0 := Lib.hid hB0
  clear hB0
  cases hp : progOkF ⟨pc, px⟩
  · rw [hp] at hC1
    have HN : Hid (machOk ⟨pc, px⟩ ⟨mem, ths⟩ = false) := Lib.hid (by simp [machOk, hp])
    have HC1 := Lib.hid hC1
    clear hr hin hrT hinT hp hC1
    go_enter Try.func16, Try.ntmps16
    go_wp2_with fail
    refine HC1.out.mono ?_
    rintro e w1 ⟨rfl, hb1⟩
    go_wp2_with fail
    go_ret
    exact ⟨ret_bool HN.out.symm, HB0.out.trans (hb1.mono HB0.out.size)⟩
  rw [hp] at hC1
  have HP := Lib.hid hp
  have hpl := progOk_len hp
  simp only at hpl
  clear hp
  have HC1 := Lib.hid hC1
  clear hC1
  cases hme : memOk mem
  · have HN : Hid (machOk ⟨pc, px⟩ ⟨mem, ths⟩ = false) := Lib.hid (by simp [machOk, hme])
    clear hr hin hrT hinT
    go_enter Try.func16, Try.ntmps16
    go_wp2_with fail
    refine HC1.out.mono ?_
    rintro e w1 ⟨rfl, hb1⟩
    have hB1 := HB0.out.trans (hb1.mono HB0.out.size)
    obtain ⟨q0, -⟩ := (k1.below hb1 k1.lt).at_ 0 (x := .slice A0 mem.length c0) rfl
    have HB1 := Lib.hid hB1
    have hC2 := impl_MemOk _ mem _ (hmem.below hB1)
    rw [hme] at hC2
    have HC2 := Lib.hid hC2
    clear hB1 hC2 hme
    go_wp2_with fail
    refine HC2.out.mono ?_
    rintro e w2 ⟨rfl, hb2⟩
    go_wp2_with fail
    go_ret
    exact ⟨ret_bool HN.out.symm, HB1.out.trans (hb2.mono HB1.out.size)⟩
  by_cases hgood : ¬ ((mem.length : Int) = pc ∧ ths.length = px.length)
  · have HN : Hid (machOk ⟨pc, px⟩ ⟨mem, ths⟩ = false) := Lib.hid (by
      by_cases h1 : (mem.length : Int) = pc
      · have h2 : ¬ ths.length = px.length := fun h => hgood ⟨h1, h⟩
        simp [machOk, h2]
      · simp [machOk, h1])
    have hcase : ((mem.length : Int) != pc) = true ∨ (((mem.length : Int) != pc) = false ∧ ((ths.length : Int) != (px.length : Int)) = true) := by
      by_cases h1 : (mem.length : Int) = pc
      · have h2 : ¬ ths.length = px.length := fun h => hgood ⟨h1, h⟩
        exact .inr ⟨by simp [h1], by simp; omega⟩
      · exact .inl (by simp [h1])
    clear hr hin hrT hinT hgood
    rcases hcase with h1 | ⟨h1, h2⟩
    all_goals
      go_enter Try.func16, Try.ntmps16
      go_wp2_with fail
      refine HC1.out.mono ?_
      rintro e w1 ⟨rfl, hb1⟩
      have hB1 := HB0.out.trans (hb1.mono HB0.out.size)
      obtain ⟨q0, -⟩ := (k1.below hb1 k1.lt).at_ 0 (x := .slice A0 mem.length c0) rfl
      have HB1 := Lib.hid hB1
      have hC2 := impl_MemOk _ mem _ (hmem.below hB1)
      rw [hme] at hC2
      have HC2 := Lib.hid hC2
      clear hB1 hC2 hme
      go_wp2_with fail
      refine HC2.out.mono ?_
      rintro e w2 ⟨rfl, hb2⟩
      obtain ⟨q0', -⟩ := ((k1.below hb1 k1.lt).below hb2 (k1.below hb1 k1.lt).lt).at_ 0 (x := .slice A0 mem.length c0) rfl
      obtain ⟨q1', -⟩ := ((k1.below hb1 k1.lt).below hb2 (k1.below hb1 k1.lt).lt).at_ 1 (x := .slice B0 ths.length d0) rfl
      obtain ⟨q2', -⟩ := ((k0.below hb1 k0.lt).below hb2 (k0.below hb1 k0.lt).lt).at_ 0 (x := .int .i64 pc) rfl
      obtain ⟨q3', -⟩ := ((k0.below hb1 k0.lt).below hb2 (k0.below hb1 k0.lt).lt).at_ 1 (x := .slice A px.length c) rfl
      go_wp2_with fail
      go_ret
      exact ⟨ret_bool HN.out.symm, HB1.out.trans (hb2.mono HB1.out.size)⟩
  obtain ⟨hg1, hg2⟩ := Classical.not_not.1 hgood
  clear hgood
  have HF : Hid (machOk ⟨pc, px⟩ ⟨mem, ths⟩ = (ths.zip px).all (thQ pc)) := Lib.hid (by simp [machOk, HP.out, hme, hg1, hg2])
  have e1 : ((mem.length : Int) != pc) = false := by simp [hg1]
  have e2 : ((ths.length : Int) != (px.length : Int)) = false := by simp [hg2]
  have hg2' : ths.length ≤ px.length ∧ px.length ≤ ths.length := by omega
  clear hg1 hg2
  obtain ⟨bT, oT, rfl, hbT, hcT⟩ := hrT (by omega)
  obtain ⟨b, o, rfl, hb, hcell⟩ := hr (by omega)
  go_enter Try.func16, Try.ntmps16
  go_wp2_with fail
  refine HC1.out.mono ?_
  rintro e w1 ⟨rfl, hb1⟩
  have hB1 := HB0.out.trans (hb1.mono HB0.out.size)
  have k0' := k0.below hb1 k0.lt
  have k1' := k1.below hb1 k1.lt
  obtain ⟨q0, -⟩ := k1'.at_ 0 (x := .slice A0 mem.length c0) rfl
  have hC2 := impl_MemOk _ mem _ (hmem.below hB1)
  have HB1 := Lib.hid hB1
  rw [hme] at hC2
  have HC2 := Lib.hid hC2
  clear hB1 hC2 hme
  go_wp2_with fail
  refine HC2.out.mono ?_
  rintro e w2 ⟨rfl, hb2⟩
  have k0 := k0'.below hb2 k0'.lt
  have k1 := k1'.below hb2 k1'.lt
  have hB0 := HB1.out.trans (hb2.mono HB1.out.size)
  clear k0' k1' q0 hb1 hb2 HB1 HC2 HC1 HB0
  obtain ⟨q0', -⟩ := k1.at_ 0 (x := .slice A0 mem.length c0) rfl
  obtain ⟨q1', -⟩ := k1.at_ 1 (x := .slice (some ⟨bT, oT, none⟩) ths.length d0) rfl
  obtain ⟨q2', -⟩ := k0.at_ 0 (x := .int .i64 pc) rfl
  obtain ⟨q3', -⟩ := k0.at_ 1 (x := .slice (some ⟨b, o, none⟩) px.length c) rfl
  go_wp2_with fail
  clear q0' q1' q2' q3'
  go_loopw [37] (fun i wr => ∃ k : Nat, k ≤ ths.length ∧ i = .int .i64 k ∧ Hid (((ths.zip px).take k).all (thQ pc) = true) ∧ Below w.heap.size w wr ∧ Bk wr w.heap.size #[.int .i64 pc, .slice (some ⟨b, o, none⟩) px.length c] 36 ∧
    Bk wr (w.heap.size + 1) #[.slice A0 mem.length c0, .slice (some ⟨bT, oT, none⟩) ths.length d0] 41) (fun i _ => ths.length - (intOf i).toNat)
  case atStart => exact ⟨0, Nat.zero_le _, rfl, Lib.hid (by simp), hB0, k0, k1⟩
  case round =>
    obtain ⟨k, hk, rfl, HA, hB, kp, km⟩ := hrel
    clear hB0 k0 k1
    obtain ⟨z1, -⟩ := km.at_ 1 (x := .slice (some ⟨bT, oT, none⟩) ths.length d0) rfl
    by_cases hlt : k < ths.length
    · obtain ⟨t, a1, a2, HT, HPv, hx0, hx1, hx2⟩ := th_at hvl hcT hlt hB hbT
      obtain ⟨ra, rb⟩ := hinT k t (a1, a2) HT.out HPv.out
      have hcx : px[k]? = some px[k] := List.getElem?_eq_getElem (by omega)
      generalize px[k] = code at hcx
      obtain ⟨ck, hck, hrk⟩ := hin.at_ hcx
      have hx := (hB.cell (p := ⟨b, o + k, none⟩) hb).trans (hcell k _ hck)
      have HZ := Lib.hid (zip_at HT.out hcx)
      obtain ⟨Ak, dk, rfl, -, hnk, hdk, -⟩ := id hrk
      have hrk1 := hrk.below hB
      unfold maxLen at hdk
      have ra1 := ra.below hB
      have rb1 := rb.below hB
      obtain ⟨Av, cv, rfl, -, hnv, hcv, hrv⟩ := id ra1
      obtain ⟨Af, cf, rfl, -, hnf, hcf, hrf⟩ := id rb1
      unfold maxLen at hcv hcf
      have lb : b < wr.heap.size := Nat.lt_of_lt_of_le hb hB.size
      clear hcT hcell hrk hcx hck hr hin hinT ra rb HPv
      have hBw := hB.alloc hB.size (.cells #[.int .i64 t.pc, .slice Av t.v.length cv, .slice Af t.f.length cf] 71)
      have kt := Bk.new wr #[.int .i64 t.pc, .slice Av t.v.length cv, .slice Af t.f.length cf] 71
      have kpw := kp.alloc (.cells #[.int .i64 t.pc, .slice Av t.v.length cv, .slice Af t.f.length cf] 71)
      have kmw := km.alloc (.cells #[.int .i64 t.pc, .slice Av t.v.length cv, .slice Af t.f.length cf] 71)
      have hxw := (((Below.refl wr.heap.size wr).alloc (Nat.le_refl _) (.cells #[.int .i64 t.pc, .slice Av t.v.length cv, .slice Af t.f.length cf] 71)).cell (p := ⟨b, o + k, none⟩) lb).trans hx
      have raw := ra1.below ((Below.refl wr.heap.size wr).alloc (Nat.le_refl _) (.cells #[.int .i64 t.pc, .slice Av t.v.length cv, .slice Af t.f.length cf] 71))
      have rbw := rb1.below ((Below.refl wr.heap.size wr).alloc (Nat.le_refl _) (.cells #[.int .i64 t.pc, .slice Av t.v.length cv, .slice Af t.f.length cf] 71))
      have hrkw := Lib.hid (hrk1.below ((Below.refl wr.heap.size wr).alloc (Nat.le_refl _) (.cells #[.int .i64 t.pc, .slice Av t.v.length cv, .slice Af t.f.length cf] 71)))
      obtain ⟨WW, hWW⟩ : ∃ WW, WW = wr.alloc (.cells #[.int .i64 t.pc, .slice Av t.v.length cv, .slice Af t.f.length cf] 71) := ⟨_, rfl⟩
      have lbw : b < WW.heap.size := by rw [hWW]; simp; omega
      rw [← hWW] at hBw kt kpw kmw hxw raw rbw hrkw
      have HWW := Lib.hid hWW
      have hgs : ∃ g, wr.heap.size = g := ⟨_, rfl⟩
      obtain ⟨g, hgs⟩ := hgs
      have HG := Lib.hid hgs
      rw [hgs] at kt
      have HB := Lib.hid hBw
      clear hWW hgs hB hBw hx
      have hklt : (k : Int) < px.length := by omega
      obtain ⟨t0, -⟩ := kt.at_ 0 (x := .int .i64 t.pc) rfl
      obtain ⟨t1, -⟩ := kt.at_ 1 (x := .slice Av t.v.length cv) rfl
      obtain ⟨t2, -⟩ := kt.at_ 2 (x := .slice Af t.f.length cf) rfl
      obtain ⟨y1, -⟩ := kpw.at_ 1 (x := .slice (some ⟨b, o, none⟩) px.length c) rfl
      have p0 := Past.cell kt.lt t0
      have p1 := Past.cell kt.lt t1
      have p2 := Past.cell kt.lt t2
      have p3 := Past.cell kpw.lt y1
      have p4 := Past.cell lbw hxw
      have y2 := (kpw.at_ 0 (x := .int .i64 pc) rfl).1
      have p5 := Past.cell kpw.lt y2
      have hU := fun p : Past WW => impl_thValid t _ _ _ code pc p.v (raw.below p.hb) (rbw.below p.hb) ((hrkw.out).below p.hb)
      have hkx : k ≤ ths.length := by omega
      clear t0 t1 t2 y1 y2
      cases hi : thOk pc t code
      · rw [hi] at hU
        have HU := Lib.hid hU
        have HN : Hid ((ths.zip px).all (thQ pc) = false) := Lib.hid (allN_false HZ.out (by simp [thQ, hi]))
        clear hU hi
        go_wp2_with fail
        rw [← HWW.out, HG.out]
        refine wp_region_past (by kernel_rfl) (by kernel_rfl) ?_
        repeat (go_big_quiet_step (first | (go_at_call 61; exact Calls.past_of (HU.out _))))
        refine wpQuiet_nil ?_
        intro _ hw'
        obtain ⟨p, rfl⟩ := hw'
        go_wp2_with fail
        go_ret
        exact ⟨ret_bool (HF.out.trans HN.out).symm, HB.out.trans (p.hb.mono HB.out.size)⟩
      · rw [hi] at hU
        have HU := Lib.hid hU
        have HN : Hid (((ths.zip px).take (k + 1)).all (thQ pc) = true) := Lib.hid (allN_snoc HA.out HZ.out (by simp [thQ, hi]))
        clear hU hi
        go_wp2_with fail
        rw [← HWW.out, HG.out]
        refine wp_region_past (by kernel_rfl) (by kernel_rfl) ?_
        repeat (go_big_quiet_step (first | (go_at_call 61; exact Calls.past_of (HU.out _))))
        refine wpQuiet_nil ?_
        intro _ hw'
        obtain ⟨p, rfl⟩ := hw'
        have KP := kpw.below p.hb kpw.lt
        have KM := kmw.below p.hb kmw.lt
        have HBp := Lib.hid (HB.out.trans (p.hb.mono HB.out.size))
        go_wp2_with fail
        exact ⟨⟨k + 1, by omega, by go_num, HN, HBp.out, KP, KM⟩, by simp [intOf]; omega⟩
    · obtain rfl : k = ths.length := by omega
      have HN := HA.out
      rw [List.take_of_length_le (by rw [List.length_zip]; omega)] at HN
      have HN := Lib.hid HN
      clear hcT hcell hr hin hinT
      go_wp2_with fail
      go_ret
      exact ⟨ret_bool (HF.out.trans HN.out).symm, hB⟩
end Go.Proofs.Ytiflooopfpcelaa

/- Contracts of AtEnd and CanMove, of both sides. Condition: the program and the machine can be read. -/
namespace Go.Proofs.Ytiflooopfpcelaa
set_option maxRecDepth 20000
set_option linter.unusedSimpArgs false
set_option linter.unusedVariables false
open Go.ChangeShapes Go.WideShapes Go.ChangeAt Go.RowKit
/-- thread k of a machine that is well, with its code, as they lie in memory -/
structure Elem (W : World) (p : Pr) (M : Ma) (b o bT oT k : Nat) (t : Th) (code : List Ins) (cv av fv : Value) : Prop where
  well : Well p M k t code
  c0 : W.cell? ⟨b, o + k, none⟩ = some cv
  c1 : W.cell? ⟨bT, oT + k * 3, none⟩ = some (.int .i64 t.pc)
  c2 : W.cell? ⟨bT, oT + k * 3 + 1, none⟩ = some av
  c3 : W.cell? ⟨bT, oT + k * 3 + 2, none⟩ = some fv
  rc : Rd W cv 4 code.length (flc code)
  ra : Rd W av 1 t.v.length (ints t.v)
  rf : Rd W fv 2 t.f.length (flc2 t.f)
theorem mach_open {w : World} {v mv tv : Value} {p : Pr} {M : Ma} (h : RdSS w v p.x) (hm : RdMa w mv tv M) (hok : machOk p M = true) :
    ∃ b o c bT oT d A0 c0, v = .slice (some ⟨b, o, none⟩) p.x.length c ∧ tv = .slice (some ⟨bT, oT, none⟩) M.ths.length d ∧ mv = .slice A0 M.mem.length c0 ∧ b < w.heap.size ∧ bT < w.heap.size ∧ c ≤ 9223372036854775807 ∧ d ≤ 9223372036854775807 ∧ c0 ≤ 9223372036854775807 ∧
      p.x.length ≤ c ∧ M.ths.length ≤ d ∧ M.mem.length ≤ c0 ∧ 1 ≤ p.x.length ∧ p.x.length ≤ 3 ∧ M.ths.length ≤ p.x.length ∧ p.x.length ≤ M.ths.length ∧
      ∀ W, Below w.heap.size w W → ∀ k, k < M.ths.length → ∃ t code cv av fv, Elem W p M b o bT oT k t code cv av fv := by
  obtain ⟨A0, c0, B0, d0, rfl, rfl, hAc, hBd, hcc, hdc⟩ := hm.slices
  obtain ⟨vsT, hvl, ⟨A', c', hAe, -, -, -, hrT⟩, hinT⟩ := hm.ths
  injection hAe with hAe1 _ hAe3
  subst hAe1 hAe3
  obtain ⟨vs, ⟨A, c, rfl, -, hnc, hc, hr⟩, hin⟩ := h
  unfold maxLen at hc
  obtain ⟨h1, -, -, h4, -⟩ := machOk_parts hok
  have hl := progOk_len h1
  obtain ⟨bT, oT, rfl, hbT, hcT⟩ := hrT (by omega)
  obtain ⟨b, o, rfl, hb, hcell⟩ := hr (by omega)
  refine ⟨b, o, c, bT, oT, d0, A0, c0, rfl, rfl, rfl, hb, hbT, by omega, hdc, hcc, hnc, hBd, hAc, hl.1, hl.2.1, by omega, by omega, fun W hW k hk => ?_⟩
  obtain ⟨t, code, hWe⟩ := well_of hok hk
  obtain ⟨t', a1, a2, HT, HPv, hx0, hx1, hx2⟩ := th_at hvl hcT hk hW hbT
  obtain rfl : t' = t := Option.some.inj (HT.out.symm.trans hWe.ht)
  obtain ⟨ra, rb⟩ := hinT k t' (a1, a2) HT.out HPv.out
  obtain ⟨ck, hck, hrk⟩ := hin.at_ hWe.hc
  exact ⟨t', code, ck, a1, a2, hWe, (hW.cell (p := ⟨b, o + k, none⟩) hb).trans (hcell k _ hck), hx0, hx1, hx2, hrk.below hW, ra.below hW, rb.below hW⟩
set_option maxHeartbeats 3200000 in
theorem l04End (v mv tv : Value) (p : Pr) (M : Ma) (w : World) (h : RdSS w v p.x) (hm : RdMa w mv tv M) (hok : machOk p M = true) :
    Calls Try.prog 77 #[.agg #[.int .i64 p.c, v], .agg #[mv, tv]] w fun e w' => e = .returned (.bool ((M.ths.zip p.x).all endQ)) ∧ Below w.heap.size w w' := by
  obtain ⟨b, o, c, bT, oT, d, A0, c0, rfl, rfl, rfl, hb, hbT, hc1, hc2, hc3, hc4, hc5, hc6, hl1, hl2, hl3, hl4, hEl⟩ := mach_open h hm hok
  have hB0 := ((Below.refl w.heap.size w).alloc (Nat.le_refl _) (.cells #[.int .i64 p.c, .slice (some ⟨b, o, none⟩) p.x.length c] 36)).alloc (by simp) (.cells #[.slice A0 M.mem.length c0, .slice (some ⟨bT, oT, none⟩) M.ths.length d] 41)
  have k0 := (Bk.new w #[.int .i64 p.c, .slice (some ⟨b, o, none⟩) p.x.length c] 36).alloc (.cells #[.slice A0 M.mem.length c0, .slice (some ⟨bT, oT, none⟩) M.ths.length d] 41)
  have k1 := Bk.new (w.alloc (.cells #[.int .i64 p.c, .slice (some ⟨b, o, none⟩) p.x.length c] 36)) #[.slice A0 M.mem.length c0, .slice (some ⟨bT, oT, none⟩) M.ths.length d] 41
  simp only [World.size_alloc] at k1
  go_enter Try.func77, Try.ntmps77
  go_wp2_with fail
  go_loopw [5] (fun i wr => ∃ k : Nat, k ≤ M.ths.length ∧ i = .int .i64 k ∧ Hid (((M.ths.zip p.x).take k).all endQ = true) ∧ Below w.heap.size w wr ∧ Bk wr w.heap.size #[.int .i64 p.c, .slice (some ⟨b, o, none⟩) p.x.length c] 36 ∧
    Bk wr (w.heap.size + 1) #[.slice A0 M.mem.length c0, .slice (some ⟨bT, oT, none⟩) M.ths.length d] 41) (fun i _ => M.ths.length - (intOf i).toNat)
  case atStart => exact ⟨0, Nat.zero_le _, rfl, Lib.hid (by simp), hB0, k0, k1⟩
  case round =>
    obtain ⟨k, hk, rfl, HA, hB, kp, km⟩ := hrel
    clear hB0 k0 k1
    obtain ⟨z0, -⟩ := km.at_ 1 (x := .slice (some ⟨bT, oT, none⟩) M.ths.length d) rfl
    obtain ⟨z1, -⟩ := kp.at_ 1 (x := .slice (some ⟨b, o, none⟩) p.x.length c) rfl
    by_cases hlt : k < M.ths.length
    · obtain ⟨t, code, cv, av, fv, E⟩ := hEl wr hB k hlt
      obtain ⟨C, dc, rfl, -, hdc1, hdc2, -⟩ := id E.rc
      obtain ⟨F, df, rfl, -, hdf1, hdf2, -⟩ := id E.rf
      unfold maxLen at hdc2 hdf2
      have x0 := E.c0
      have x1 := E.c1
      have x3 := E.c3
      have hf3 : t.f.length ≤ 3 := by have := (thOk_parts E.well.th).2.2.1; simp only [bufOk, Bool.and_eq_true, decide_eq_true_eq] at this; exact this.1
      have HZ := Lib.hid (zip_at E.well.ht E.well.hc)
      have hklt : (k : Int) < M.ths.length := by omega
      have hklt' : (k : Int) < p.x.length := by omega
      have hbr : b < wr.heap.size := Nat.lt_of_lt_of_le hb hB.size
      clear E hEl
      by_cases he : t.pc = code.length
      · have e1 : (t.pc != (code.length : Int)) = false := by simp [he]
        have hE : endT t code = true := by simp [endT, he]
        by_cases hf : 0 < t.f.length
        · have HN : Hid ((M.ths.zip p.x).all endQ = false) := Lib.hid (allN_false HZ.out (by simp [endQ, canDr, hf]))
          clear he
          go_wp2_with fail
          go_quiet (fail)
          go_wp2_with fail
          go_ret
          exact ⟨ret_bool HN.out.symm, below_more hB _⟩
        · have HN : Hid (((M.ths.zip p.x).take (k + 1)).all endQ = true) := Lib.hid (allN_snoc HA.out HZ.out (by simp only [endQ, hE, canDr, decide_eq_false hf]; rfl))
          clear he
          go_wp2_with fail
          go_quiet (fail)
          go_wp2_with fail
          exact ⟨⟨k + 1, by omega, by go_num, HN, below_more hB _, kp.drewN _, km.drewN _⟩, by simp [intOf]; omega⟩
      · have e1 : (t.pc != (code.length : Int)) = true := by simp [he]
        have HN : Hid ((M.ths.zip p.x).all endQ = false) := Lib.hid (allN_false HZ.out (by simp [endQ, endT, he]))
        clear he
        go_wp2_with fail
        go_quiet (fail)
        go_wp2_with fail
        go_ret
        exact ⟨ret_bool HN.out.symm, below_more hB _⟩
    · obtain rfl : k = M.ths.length := by omega
      have HN := HA.out
      rw [List.take_of_length_le (by rw [List.length_zip]; omega)] at HN
      have HN := Lib.hid HN
      clear hEl
      go_wp2_with fail
      go_ret
      exact ⟨ret_bool HN.out.symm, hB⟩
set_option maxHeartbeats 1600000 in
theorem spec_AtEnd (v mv tv : Value) (p : Pr) (M : Ma) (w : World) (h : RdSS w v p.x) (hm : RdMa w mv tv M) :
    Calls Try.prog 32 #[.agg #[.int .i64 p.c, v], .agg #[mv, tv]] w fun e w' => e = .returned (.bool (endF p M)) ∧ Below w.heap.size w w' := by
  obtain ⟨A0, c0, B0, d0, rfl, rfl, -⟩ := hm.slices
  obtain ⟨vs, ⟨A, c, rfl, -, hnc, hc, hr⟩, hin⟩ := id h
  have hB0 := ((Below.refl w.heap.size w).alloc (Nat.le_refl _) (.cells #[.int .i64 p.c, .slice A p.x.length c] 36)).alloc (by simp) (.cells #[.slice A0 M.mem.length c0, .slice B0 M.ths.length d0] 41)
  have k0 := (Bk.new w #[.int .i64 p.c, .slice A p.x.length c] 36).alloc (.cells #[.slice A0 M.mem.length c0, .slice B0 M.ths.length d0] 41)
  have k1 := Bk.new (w.alloc (.cells #[.int .i64 p.c, .slice A p.x.length c] 36)) #[.slice A0 M.mem.length c0, .slice B0 M.ths.length d0] 41
  simp only [World.size_alloc] at k1
  have hC1 := spec_MachineOk _ _ _ p M _ (h.below hB0) (hm.below hB0)
  have HB0 := Lib.hid hB0
  clear hB0 hr hin
  cases hok : machOk p M
  · rw [hok] at hC1
    have HC1 := Lib.hid hC1
    have HN : Hid (endF p M = false) := Lib.hid (by simp [endF, hok])
    clear hC1 hok
    go_enter Try.func32, Try.ntmps32
    go_wp2_with fail
    refine HC1.out.mono ?_
    rintro e w1 ⟨rfl, hb1⟩
    go_wp2_with fail
    go_ret
    exact ⟨ret_bool HN.out.symm, HB0.out.trans (hb1.mono HB0.out.size)⟩
  · rw [hok] at hC1
    have HC1 := Lib.hid hC1
    have HN : Hid (endF p M = (M.ths.zip p.x).all endQ) := Lib.hid (by simp [endF, hok])
    clear hC1
    go_enter Try.func32, Try.ntmps32
    go_wp2_with fail
    refine HC1.out.mono ?_
    rintro e w1 ⟨rfl, hb1⟩
    have hB1 := HB0.out.trans (hb1.mono HB0.out.size)
    have K0 := k0.below hb1 k0.lt
    have K1 := k1.below hb1 k1.lt
    obtain ⟨p0, -⟩ := K0.at_ 0 (x := .int .i64 p.c) rfl
    obtain ⟨p1, -⟩ := K0.at_ 1 (x := .slice A p.x.length c) rfl
    obtain ⟨m0, -⟩ := K1.at_ 0 (x := .slice A0 M.mem.length c0) rfl
    obtain ⟨m1, -⟩ := K1.at_ 1 (x := .slice B0 M.ths.length d0) rfl
    have HB1 := Lib.hid hB1
    clear hB1 hb1
    go_wp2_with fail
    refine (l04End _ _ _ p M _ (h.below HB1.out) (hm.below HB1.out) hok).mono ?_
    rintro e w2 ⟨rfl, hb2⟩
    rw [← HN.out]
    have hE : ∃ z, endF p M = z := ⟨_, rfl⟩
    obtain ⟨z, hz⟩ := hE
    have HZ := Lib.hid hz
    rw [hz]
    go_wp2_with fail
    go_ret
    exact ⟨ret_bool HZ.out.symm, HB1.out.trans (hb2.mono HB1.out.size)⟩
set_option maxHeartbeats 3200000 in
theorem impl_AtEnd (v mv tv : Value) (p : Pr) (M : Ma) (w : World) (h : RdSS w v p.x) (hm : RdMa w mv tv M) :
    Calls Try.prog 33 #[.agg #[.int .i64 p.c, v], .agg #[mv, tv]] w fun e w' => e = .returned (.bool (endF p M)) ∧ Below w.heap.size w w' := by
  cases hok : machOk p M
  · obtain ⟨A0, c0, B0, d0, rfl, rfl, -⟩ := hm.slices
    obtain ⟨vs, ⟨A, c, rfl, -, hnc, hc, hr⟩, hin⟩ := id h
    have hB0 := ((Below.refl w.heap.size w).alloc (Nat.le_refl _) (.cells #[.int .i64 p.c, .slice A p.x.length c] 36)).alloc (by simp) (.cells #[.slice A0 M.mem.length c0, .slice B0 M.ths.length d0] 41)
    have hC1 := impl_MachineOk _ _ _ p M _ (h.below hB0) (hm.below hB0)
    have HB0 := Lib.hid hB0
    rw [hok] at hC1
    have HC1 := Lib.hid hC1
    have HN : Hid (endF p M = false) := Lib.hid (by simp [endF, hok])
    clear hC1 hok hB0 hr hin
    go_enter Try.func33, Try.ntmps33
    go_wp2_with fail
    refine HC1.out.mono ?_
    rintro e w1 ⟨rfl, hb1⟩
    go_wp2_with fail
    go_ret
    exact ⟨ret_bool HN.out.symm, HB0.out.trans (hb1.mono HB0.out.size)⟩
  obtain ⟨b, o, c, bT, oT, d, A0, c0, rfl, rfl, rfl, hb, hbT, hc1, hc2, hc3, hc4, hc5, hc6, hl1, hl2, hl3, hl4, hEl⟩ := mach_open h hm hok
  have hB0 := ((Below.refl w.heap.size w).alloc (Nat.le_refl _) (.cells #[.int .i64 p.c, .slice (some ⟨b, o, none⟩) p.x.length c] 36)).alloc (by simp) (.cells #[.slice A0 M.mem.length c0, .slice (some ⟨bT, oT, none⟩) M.ths.length d] 41)
  have k0 := (Bk.new w #[.int .i64 p.c, .slice (some ⟨b, o, none⟩) p.x.length c] 36).alloc (.cells #[.slice A0 M.mem.length c0, .slice (some ⟨bT, oT, none⟩) M.ths.length d] 41)
  have k1 := Bk.new (w.alloc (.cells #[.int .i64 p.c, .slice (some ⟨b, o, none⟩) p.x.length c] 36)) #[.slice A0 M.mem.length c0, .slice (some ⟨bT, oT, none⟩) M.ths.length d] 41
  simp only [World.size_alloc] at k1
  have hC1 := impl_MachineOk _ _ _ p M _ (h.below hB0) (hm.below hB0)
  rw [hok] at hC1
  have HC1 := Lib.hid hC1
  have HF : Hid (endF p M = (M.ths.zip p.x).all endQ) := Lib.hid (by simp [endF, hok])
  have HB0 := Lib.hid hB0
  clear hC1 hok hB0
  go_enter Try.func33, Try.ntmps33
  go_wp2_with fail
  refine HC1.out.mono ?_
  rintro e w1 ⟨rfl, hb1⟩
  have hB0 := HB0.out.trans (hb1.mono HB0.out.size)
  have k0 := k0.below hb1 k0.lt
  have k1 := k1.below hb1 k1.lt
  obtain ⟨z0, -⟩ := k1.at_ 1 (x := .slice (some ⟨bT, oT, none⟩) M.ths.length d) rfl
  clear hb1 HB0
  go_wp2_with fail
  clear z0
  go_loopw [14] (fun i wr => ∃ k : Nat, k ≤ M.ths.length ∧ i = .int .i64 k ∧ Hid (((M.ths.zip p.x).take k).all endQ = true) ∧ Below w.heap.size w wr ∧ Bk wr w.heap.size #[.int .i64 p.c, .slice (some ⟨b, o, none⟩) p.x.length c] 36) (fun i _ => M.ths.length - (intOf i).toNat)
  case atStart => exact ⟨0, Nat.zero_le _, rfl, Lib.hid (by simp), hB0, k0⟩
  case round =>
    obtain ⟨k, hk, rfl, HA, hB, kp⟩ := hrel
    clear hB0 k0 k1
    by_cases hlt : k < M.ths.length
    · obtain ⟨t, code, cv, av, fv, E⟩ := hEl wr hB k hlt
      obtain ⟨C, dc, rfl, -, hdc1, hdc2, -⟩ := id E.rc
      obtain ⟨Av, da, rfl, -, -, -, -⟩ := id E.ra
      obtain ⟨F, df, rfl, -, hdf1, hdf2, -⟩ := id E.rf
      have x1 := E.c1
      have x2 := E.c2
      have x3 := E.c3
      have HZ := Lib.hid (zip_at E.well.ht E.well.hc)
      have hklt' : (k : Int) < p.x.length := by omega
      have hbr : b < wr.heap.size := Nat.lt_of_lt_of_le hb hB.size
      have hBw := hB.alloc hB.size (.cells #[.int .i64 t.pc, .slice Av t.v.length da, .slice F t.f.length df] 71)
      have kt := Bk.new wr #[.int .i64 t.pc, .slice Av t.v.length da, .slice F t.f.length df] 71
      have kpw := kp.alloc (.cells #[.int .i64 t.pc, .slice Av t.v.length da, .slice F t.f.length df] 71)
      have x0 := (((Below.refl wr.heap.size wr).alloc (Nat.le_refl _) (.cells #[.int .i64 t.pc, .slice Av t.v.length da, .slice F t.f.length df] 71)).cell (p := ⟨b, o + k, none⟩) hbr).trans E.c0
      obtain ⟨WW, hWW⟩ : ∃ WW, WW = wr.alloc (.cells #[.int .i64 t.pc, .slice Av t.v.length da, .slice F t.f.length df] 71) := ⟨_, rfl⟩
      have lbw : b < WW.heap.size := by rw [hWW]; simp; omega
      rw [← hWW] at hBw kt kpw x0
      have HWW := Lib.hid hWW
      obtain ⟨g, hgs⟩ : ∃ g, wr.heap.size = g := ⟨_, rfl⟩
      have HG := Lib.hid hgs
      rw [hgs] at kt
      have HB := Lib.hid hBw
      clear hWW hgs hB hBw E hEl
      obtain ⟨t0, -⟩ := kt.at_ 0 (x := .int .i64 t.pc) rfl
      obtain ⟨t1, -⟩ := kt.at_ 1 (x := .slice Av t.v.length da) rfl
      obtain ⟨t2, -⟩ := kt.at_ 2 (x := .slice F t.f.length df) rfl
      obtain ⟨y1, -⟩ := kpw.at_ 1 (x := .slice (some ⟨b, o, none⟩) p.x.length c) rfl
      have p0 := Past.cell kt.lt t0
      have p1 := Past.cell kt.lt t1
      have p2 := Past.cell kt.lt t2
      have p3 := Past.cell kpw.lt y1
      have p4 := Past.cell lbw x0
      have hU := fun W : World => impl_atEnd t (.slice Av t.v.length da) (.slice F t.f.length df) (.slice C code.length dc) code W ⟨_, _, rfl⟩
      have hV := fun W : World => impl_canDrain t (.slice Av t.v.length da) (.slice F t.f.length df) W ⟨_, _, rfl⟩
      clear t0 t1 t2 y1
      cases he : endT t code
      · rw [he] at hU
        have HU := Lib.hid hU
        have HN : Hid ((M.ths.zip p.x).all endQ = false) := Lib.hid (allN_false HZ.out (by simp [endQ, he]))
        clear hU he hV
        go_wp2_with fail
        rw [← HWW.out, HG.out]
        refine wp_region_past (by kernel_rfl) (by kernel_rfl) ?_
        repeat (go_big_quiet_step (first | (go_at_call 78; exact Calls.past_of (HU.out _))))
        refine wpQuiet_nil ?_
        intro _ hw'
        obtain ⟨p, rfl⟩ := hw'
        go_wp2_with fail
        go_ret
        exact ⟨ret_bool (HF.out.trans HN.out).symm, HB.out.trans (p.hb.mono HB.out.size)⟩
      · rw [he] at hU
        have HU := Lib.hid hU
        cases hf : canDr t
        · rw [hf] at hV
          have HV := Lib.hid hV
          have HN : Hid (((M.ths.zip p.x).take (k + 1)).all endQ = true) := Lib.hid (allN_snoc HA.out HZ.out (by simp [endQ, he, hf]))
          clear hU he hV hf
          go_wp2_with fail
          rw [← HWW.out, HG.out]
          refine wp_region_past (by kernel_rfl) (by kernel_rfl) ?_
          repeat (go_big_quiet_step (first | (go_at_call 78; exact Calls.past_of (HU.out _)) | (go_at_call 75; exact Calls.past_of (HV.out _))))
          refine wpQuiet_nil ?_
          intro _ hw'
          obtain ⟨p, rfl⟩ := hw'
          have KP := kpw.below p.hb kpw.lt
          have HBp := Lib.hid (HB.out.trans (p.hb.mono HB.out.size))
          go_wp2_with fail
          exact ⟨⟨k + 1, by omega, by go_num, HN, HBp.out, KP⟩, by simp [intOf]; omega⟩
        · rw [hf] at hV
          have HV := Lib.hid hV
          have HN : Hid ((M.ths.zip p.x).all endQ = false) := Lib.hid (allN_false HZ.out (by simp [endQ, hf]))
          clear hU he hV hf
          go_wp2_with fail
          rw [← HWW.out, HG.out]
          refine wp_region_past (by kernel_rfl) (by kernel_rfl) ?_
          repeat (go_big_quiet_step (first | (go_at_call 78; exact Calls.past_of (HU.out _)) | (go_at_call 75; exact Calls.past_of (HV.out _))))
          refine wpQuiet_nil ?_
          intro _ hw'
          obtain ⟨p, rfl⟩ := hw'
          go_wp2_with fail
          go_ret
          exact ⟨ret_bool (HF.out.trans HN.out).symm, HB.out.trans (p.hb.mono HB.out.size)⟩
    · obtain rfl : k = M.ths.length := by omega
      have HN := HA.out
      rw [List.take_of_length_le (by rw [List.length_zip]; omega)] at HN
      have HN := Lib.hid HN
      clear hEl
      go_wp2_with fail
      go_ret
      exact ⟨ret_bool (HF.out.trans HN.out).symm, hB⟩
end Go.Proofs.Ytiflooopfpcelaa

/- Contracts of Moves, of both sides, and of CanMove. Condition: the program and the machine can be read. -/
namespace Go.Proofs.Ytiflooopfpcelaa
set_option maxRecDepth 20000
set_option linter.unusedSimpArgs false
set_option linter.unusedVariables false
open Go.ChangeShapes Go.WideShapes Go.ChangeAt Go.RowKit
/-- returns a row of moves of its own -/
def RetMvs (L : List Mv) (w : World) (e : Ending) (w' : World) : Prop :=
  ∃ v bs, e = .returned v ∧ Own w' v 2 L.length (mvCs L) bs ∧ (∀ b ∈ bs, w.heap.size ≤ b) ∧ Below w.heap.size w w'
theorem owns_snocM {w : World} {base : Nat} {t : TypeId} {v : Value} {N : List Mv} {x : Mv} (h : w.ownsRow base t 2 v (N.length + 1) (mvCs N ++ [.int .i64 x.t, .bool x.d])) : w.ownsRow base t 2 v (N ++ [x]).length (mvCs (N ++ [x])) := by
  rw [List.length_append, mvCs_append, mvCs_one]
  exact h
theorem mvsAt_next {p : Pr} {M : Ma} {k : Nat} {t : Th} {code : List Ins} (h : Well p M k t code) : mvsAt p M (k + 1) = mvsAt p M k ++ mvOf k (t, code) := by
  rw [mvsAt_succ, List.getD_eq_getElem?_getD, h.ht, List.getD_eq_getElem?_getD, h.hc]
  rfl
set_option maxHeartbeats 6400000 in
theorem l04Moves (v mv tv : Value) (p : Pr) (M : Ma) (w : World) (h : RdSS w v p.x) (hm : RdMa w mv tv M) (hok : machOk p M = true) :
    Calls Try.prog 73 #[.agg #[.int .i64 p.c, v], .agg #[mv, tv]] w (RetMvs (mvsAt p M M.ths.length) w) := by
  obtain ⟨b, o, c, bT, oT, d, A0, c0, rfl, rfl, rfl, hb, hbT, hc1, hc2, hc3, hc4, hc5, hc6, hl1, hl2, hl3, hl4, hEl⟩ := mach_open h hm hok
  obtain ⟨i, hi, hiz0, hiz1, hiz2⟩ := info_parts infoMv
  have hBq := ((Below.refl w.heap.size w).alloc (Nat.le_refl _) (.cells #[.int .i64 p.c, .slice (some ⟨b, o, none⟩) p.x.length c] 36)).alloc (by simp) (.cells #[.slice A0 M.mem.length c0, .slice (some ⟨bT, oT, none⟩) M.ths.length d] 41)
  have hB0 := hBq.alloc hBq.size (.cells #[] 54)
  have k0 := ((Bk.new w #[.int .i64 p.c, .slice (some ⟨b, o, none⟩) p.x.length c] 36).alloc (.cells #[.slice A0 M.mem.length c0, .slice (some ⟨bT, oT, none⟩) M.ths.length d] 41)).alloc (.cells #[] 54)
  have k1 := (Bk.new (w.alloc (.cells #[.int .i64 p.c, .slice (some ⟨b, o, none⟩) p.x.length c] 36)) #[.slice A0 M.mem.length c0, .slice (some ⟨bT, oT, none⟩) M.ths.length d] 41).alloc (.cells #[] 54)
  simp only [World.size_alloc] at k1
  have hO0 := World.ownsRow_lit (base := w.heap.size + 2) (e := 54) (size := 2) ((w.alloc (.cells #[.int .i64 p.c, .slice (some ⟨b, o, none⟩) p.x.length c] 36)).alloc (.cells #[.slice A0 M.mem.length c0, .slice (some ⟨bT, oT, none⟩) M.ths.length d] 41)) #[] 0 (by simp) (by simp [maxLen]) rfl
  simp only [World.size_alloc] at hO0
  clear hBq
  go_enter Try.func73, Try.ntmps73
  go_wp2_with fail
  go_loopw [5, 6] (fun l i' wr => ∃ (k : Nat) (L : List Mv), k ≤ M.ths.length ∧ i' = .int .i64 k ∧ L.length ≤ 2 * k ∧ Hid (L = mvsAt p M k) ∧ wr.ownsRow (w.heap.size + 2) 54 2 l L.length (mvCs L) ∧ Below w.heap.size w wr ∧ Bk wr w.heap.size #[.int .i64 p.c, .slice (some ⟨b, o, none⟩) p.x.length c] 36 ∧
    Bk wr (w.heap.size + 1) #[.slice A0 M.mem.length c0, .slice (some ⟨bT, oT, none⟩) M.ths.length d] 41) (fun _ i' _ => M.ths.length - (intOf i').toNat)
  case atStart => exact ⟨0, [], Nat.zero_le _, rfl, by simp, Lib.hid rfl, hO0, hB0, k0, k1⟩
  case round =>
    obtain ⟨k, L, hk, rfl, hLl, HL, hO, hB, kp, km⟩ := hrel
    clear hB0 k0 k1 hO0
    obtain ⟨z0, -⟩ := km.at_ 0 (x := .slice A0 M.mem.length c0) rfl
    obtain ⟨z1, -⟩ := km.at_ 1 (x := .slice (some ⟨bT, oT, none⟩) M.ths.length d) rfl
    obtain ⟨z2, -⟩ := kp.at_ 0 (x := .int .i64 p.c) rfl
    obtain ⟨z3, -⟩ := kp.at_ 1 (x := .slice (some ⟨b, o, none⟩) p.x.length c) rfl
    by_cases hlt : k < M.ths.length
    · obtain ⟨t, code, cv, av, fv, E⟩ := hEl wr hB k hlt
      have HW := Lib.hid E.well
      have hC1 := fun (W : World) (hW : Below w.heap.size w W) => l04Can _ _ _ p M k false t code W (h.below hW) (hm.below hW) HW.out
      have hC2 := fun (W : World) (hW : Below w.heap.size w W) => l04Can _ _ _ p M k true t code W (h.below hW) (hm.below hW) HW.out
      have HN := Lib.hid (mvsAt_next HW.out)
      clear E hEl
      cases hx1 : canEx t code <;> cases hx2 : canDr t
      · rw [show canT false t code = false from hx1] at hC1
        rw [show canT true t code = false from hx2] at hC2
        have HLn : Hid (L = mvsAt p M (k + 1)) := Lib.hid (by rw [HN.out, ← HL.out]; simp [mvOf, hx1, hx2])
        have HC1 := Lib.hid hC1
        have HC2 := Lib.hid hC2
        clear hC1 hC2 hx1 hx2
        go_wp2_with fail
        refine (HC1.out _ hB).mono ?_
        rintro e w1 ⟨rfl, hb1⟩
        have hO1 := ownsRow_below hO hb1
        have hB1 := hB.trans (hb1.mono hB.size)
        have kp1 := kp.below hb1 kp.lt
        have km1 := km.below hb1 km.lt
        clear hO hB kp km hb1 z0 z1 z2 z3
        have lk1 := km1.lt
        obtain ⟨y0, -⟩ := km1.at_ 0 (x := .slice A0 M.mem.length c0) rfl
        obtain ⟨y1, -⟩ := km1.at_ 1 (x := .slice (some ⟨bT, oT, none⟩) M.ths.length d) rfl
        obtain ⟨y2, -⟩ := kp1.at_ 0 (x := .int .i64 p.c) rfl
        obtain ⟨y3, -⟩ := kp1.at_ 1 (x := .slice (some ⟨b, o, none⟩) p.x.length c) rfl
        go_wp2_with fail
        refine (HC2.out _ hB1).mono ?_
        rintro e w3 ⟨rfl, hb3⟩
        have hO3 := ownsRow_below hO1 hb3
        have hB3 := hB1.trans (hb3.mono hB1.size)
        have kp3 := kp1.below hb3 kp1.lt
        have km3 := km1.below hb3 km1.lt
        clear y0 y1 y2 y3
        go_wp2_with fail
        exact ⟨⟨k + 1, _, by omega, by go_num, by first | omega | (simp; omega), HLn, hO3, hB3, kp3, km3⟩, by simp [intOf]; omega⟩
      · rw [show canT false t code = false from hx1] at hC1
        rw [show canT true t code = true from hx2] at hC2
        have HLn : Hid (L ++ [⟨k, true⟩] = mvsAt p M (k + 1)) := Lib.hid (by rw [HN.out, ← HL.out]; simp [mvOf, hx1, hx2])
        have HC1 := Lib.hid hC1
        have HC2 := Lib.hid hC2
        clear hC1 hC2 hx1 hx2
        go_wp2_with fail
        refine (HC1.out _ hB).mono ?_
        rintro e w1 ⟨rfl, hb1⟩
        have hO1 := ownsRow_below hO hb1
        have hB1 := hB.trans (hb1.mono hB.size)
        have kp1 := kp.below hb1 kp.lt
        have km1 := km.below hb1 km.lt
        clear hO hB kp km hb1 z0 z1 z2 z3
        have lk1 := km1.lt
        obtain ⟨y0, -⟩ := km1.at_ 0 (x := .slice A0 M.mem.length c0) rfl
        obtain ⟨y1, -⟩ := km1.at_ 1 (x := .slice (some ⟨bT, oT, none⟩) M.ths.length d) rfl
        obtain ⟨y2, -⟩ := kp1.at_ 0 (x := .int .i64 p.c) rfl
        obtain ⟨y3, -⟩ := kp1.at_ 1 (x := .slice (some ⟨b, o, none⟩) p.x.length c) rfl
        go_wp2_with fail
        refine (HC2.out _ hB1).mono ?_
        rintro e w3 ⟨rfl, hb3⟩
        have hO3 := ownsRow_below hO1 hb3
        have hB3 := hB1.trans (hb3.mono hB1.size)
        have kp3 := kp1.below hb3 kp1.lt
        have km3 := km1.below hb3 km1.lt
        clear y0 y1 y2 y3
        have hl3 : L.length ≤ 2 * k + 1 := by first | omega | (simp; omega)
        have lk3 := km3.lt
        go_wp2_with (at_builtin; refine wpList_append_own _ rfl _ _ 57 rfl (w.heap.size + 2) 54 i (.agg #[.int .i64 0, .bool false]) 2 16 Try.underlying57 hi hiz0 hiz1 hiz2 rfl (by decide) _ _ _ rfl (hO3.alloc _) ⟨w3.heap.size, 0, none⟩ 1 1 [.int .i64 k, .bool true] rfl rfl (new_cells _ _ _) (by simp [Value.oneCell']) (by unfold maxLen; omega) (by omega) (by have := hB3.size; simp; omega) ?_)
        intro v4 w4 hO4 hg4 _
        have hB4 := (hB3.alloc hB3.size _).grown hg4 (by have := hB3.size; simp; omega) (fun k hk => by have := (hO3.lt k hk).1; omega)
        have hO4 := owns_snocM (x := ⟨k, true⟩) hO4
        have kp4 := (kp3.alloc (.cells #[.int .i64 k, .bool true] 54)).grown hg4 (fun q hq => by have := (hO3.lt q hq).1; omega)
        have km4 := (km3.alloc (.cells #[.int .i64 k, .bool true] 54)).grown hg4 (fun q hq => by have := (hO3.lt q hq).1; omega)
        go_wp2_with fail
        exact ⟨⟨k + 1, _, by omega, by go_num, by first | omega | (simp; omega), HLn, hO4, hB4, kp4, km4⟩, by simp [intOf]; omega⟩
      · rw [show canT false t code = true from hx1] at hC1
        rw [show canT true t code = false from hx2] at hC2
        have HLn : Hid (L ++ [⟨k, false⟩] = mvsAt p M (k + 1)) := Lib.hid (by rw [HN.out, ← HL.out]; simp [mvOf, hx1, hx2])
        have HC1 := Lib.hid hC1
        have HC2 := Lib.hid hC2
        clear hC1 hC2 hx1 hx2
        go_wp2_with fail
        refine (HC1.out _ hB).mono ?_
        rintro e w1 ⟨rfl, hb1⟩
        have hO1 := ownsRow_below hO hb1
        have hB1 := hB.trans (hb1.mono hB.size)
        have kp1 := kp.below hb1 kp.lt
        have km1 := km.below hb1 km.lt
        clear hO hB kp km hb1 z0 z1 z2 z3
        have lk1 := km1.lt
        go_wp2_with (at_builtin; refine wpList_append_own _ rfl _ _ 57 rfl (w.heap.size + 2) 54 i (.agg #[.int .i64 0, .bool false]) 2 16 Try.underlying57 hi hiz0 hiz1 hiz2 rfl (by decide) _ _ _ rfl (hO1.alloc _) ⟨w1.heap.size, 0, none⟩ 1 1 [.int .i64 k, .bool false] rfl rfl (new_cells _ _ _) (by simp [Value.oneCell']) (by unfold maxLen; omega) (by omega) (by have := hB1.size; simp; omega) ?_)
        intro v2 w2 hO2 hg2 _
        have hB2 := (hB1.alloc hB1.size _).grown hg2 (by have := hB1.size; simp; omega) (fun k hk => by have := (hO1.lt k hk).1; omega)
        have hO2 := owns_snocM (x := ⟨k, false⟩) hO2
        have kp2 := (kp1.alloc (.cells #[.int .i64 k, .bool false] 54)).grown hg2 (fun q hq => by have := (hO1.lt q hq).1; omega)
        have km2 := (km1.alloc (.cells #[.int .i64 k, .bool false] 54)).grown hg2 (fun q hq => by have := (hO1.lt q hq).1; omega)
        obtain ⟨L2, hL2⟩ : ∃ L2, L ++ [Mv.mk k false] = L2 := ⟨_, rfl⟩
        have hLl2 : L2.length ≤ 2 * k + 1 := by rw [← hL2]; simp; omega
        rw [hL2] at hO2 HLn
        clear hL2
        obtain ⟨y0, -⟩ := km2.at_ 0 (x := .slice A0 M.mem.length c0) rfl
        obtain ⟨y1, -⟩ := km2.at_ 1 (x := .slice (some ⟨bT, oT, none⟩) M.ths.length d) rfl
        obtain ⟨y2, -⟩ := kp2.at_ 0 (x := .int .i64 p.c) rfl
        obtain ⟨y3, -⟩ := kp2.at_ 1 (x := .slice (some ⟨b, o, none⟩) p.x.length c) rfl
        go_wp2_with fail
        refine (HC2.out _ hB2).mono ?_
        rintro e w3 ⟨rfl, hb3⟩
        have hO3 := ownsRow_below hO2 hb3
        have hB3 := hB2.trans (hb3.mono hB2.size)
        have kp3 := kp2.below hb3 kp2.lt
        have km3 := km2.below hb3 km2.lt
        clear y0 y1 y2 y3
        go_wp2_with fail
        exact ⟨⟨k + 1, _, by omega, by go_num, by first | omega | (simp; omega), HLn, hO3, hB3, kp3, km3⟩, by simp [intOf]; omega⟩
      · rw [show canT false t code = true from hx1] at hC1
        rw [show canT true t code = true from hx2] at hC2
        have HLn : Hid (L ++ [⟨k, false⟩] ++ [⟨k, true⟩] = mvsAt p M (k + 1)) := Lib.hid (by rw [HN.out, ← HL.out]; simp [mvOf, hx1, hx2])
        have HC1 := Lib.hid hC1
        have HC2 := Lib.hid hC2
        clear hC1 hC2 hx1 hx2
        go_wp2_with fail
        refine (HC1.out _ hB).mono ?_
        rintro e w1 ⟨rfl, hb1⟩
        have hO1 := ownsRow_below hO hb1
        have hB1 := hB.trans (hb1.mono hB.size)
        have kp1 := kp.below hb1 kp.lt
        have km1 := km.below hb1 km.lt
        clear hO hB kp km hb1 z0 z1 z2 z3
        have lk1 := km1.lt
        go_wp2_with (at_builtin; refine wpList_append_own _ rfl _ _ 57 rfl (w.heap.size + 2) 54 i (.agg #[.int .i64 0, .bool false]) 2 16 Try.underlying57 hi hiz0 hiz1 hiz2 rfl (by decide) _ _ _ rfl (hO1.alloc _) ⟨w1.heap.size, 0, none⟩ 1 1 [.int .i64 k, .bool false] rfl rfl (new_cells _ _ _) (by simp [Value.oneCell']) (by unfold maxLen; omega) (by omega) (by have := hB1.size; simp; omega) ?_)
        intro v2 w2 hO2 hg2 _
        have hB2 := (hB1.alloc hB1.size _).grown hg2 (by have := hB1.size; simp; omega) (fun k hk => by have := (hO1.lt k hk).1; omega)
        have hO2 := owns_snocM (x := ⟨k, false⟩) hO2
        have kp2 := (kp1.alloc (.cells #[.int .i64 k, .bool false] 54)).grown hg2 (fun q hq => by have := (hO1.lt q hq).1; omega)
        have km2 := (km1.alloc (.cells #[.int .i64 k, .bool false] 54)).grown hg2 (fun q hq => by have := (hO1.lt q hq).1; omega)
        obtain ⟨L2, hL2⟩ : ∃ L2, L ++ [Mv.mk k false] = L2 := ⟨_, rfl⟩
        have hLl2 : L2.length ≤ 2 * k + 1 := by rw [← hL2]; simp; omega
        rw [hL2] at hO2 HLn
        clear hL2
        obtain ⟨y0, -⟩ := km2.at_ 0 (x := .slice A0 M.mem.length c0) rfl
        obtain ⟨y1, -⟩ := km2.at_ 1 (x := .slice (some ⟨bT, oT, none⟩) M.ths.length d) rfl
        obtain ⟨y2, -⟩ := kp2.at_ 0 (x := .int .i64 p.c) rfl
        obtain ⟨y3, -⟩ := kp2.at_ 1 (x := .slice (some ⟨b, o, none⟩) p.x.length c) rfl
        go_wp2_with fail
        refine (HC2.out _ hB2).mono ?_
        rintro e w3 ⟨rfl, hb3⟩
        have hO3 := ownsRow_below hO2 hb3
        have hB3 := hB2.trans (hb3.mono hB2.size)
        have kp3 := kp2.below hb3 kp2.lt
        have km3 := km2.below hb3 km2.lt
        clear y0 y1 y2 y3
        have hl3 : L2.length ≤ 2 * k + 1 := by first | omega | (simp; omega)
        have lk3 := km3.lt
        go_wp2_with (at_builtin; refine wpList_append_own _ rfl _ _ 57 rfl (w.heap.size + 2) 54 i (.agg #[.int .i64 0, .bool false]) 2 16 Try.underlying57 hi hiz0 hiz1 hiz2 rfl (by decide) _ _ _ rfl (hO3.alloc _) ⟨w3.heap.size, 0, none⟩ 1 1 [.int .i64 k, .bool true] rfl rfl (new_cells _ _ _) (by simp [Value.oneCell']) (by unfold maxLen; omega) (by omega) (by have := hB3.size; simp; omega) ?_)
        intro v4 w4 hO4 hg4 _
        have hB4 := (hB3.alloc hB3.size _).grown hg4 (by have := hB3.size; simp; omega) (fun k hk => by have := (hO3.lt k hk).1; omega)
        have hO4 := owns_snocM (x := ⟨k, true⟩) hO4
        have kp4 := (kp3.alloc (.cells #[.int .i64 k, .bool true] 54)).grown hg4 (fun q hq => by have := (hO3.lt q hq).1; omega)
        have km4 := (km3.alloc (.cells #[.int .i64 k, .bool true] 54)).grown hg4 (fun q hq => by have := (hO3.lt q hq).1; omega)
        go_wp2_with fail
        exact ⟨⟨k + 1, _, by omega, by go_num, by first | omega | (simp; omega), HLn, hO4, hB4, kp4, km4⟩, by simp [intOf]; omega⟩
    · obtain rfl : k = M.ths.length := by omega
      go_wp2_with fail
      go_ret
      rw [HL.out] at hO
      obtain ⟨bs, h1, h2⟩ := Own.of_owns hO
      exact ⟨_, bs, rfl, h1, fun x hx => by have := h2 x hx; omega, hB⟩
set_option maxHeartbeats 6400000 in
theorem impl_Moves (v mv tv : Value) (p : Pr) (M : Ma) (w : World) (h : RdSS w v p.x) (hm : RdMa w mv tv M) :
    Calls Try.prog 28 #[.agg #[.int .i64 p.c, v], .agg #[mv, tv]] w (RetMvs (mvsF p M) w) := by
  cases hok : machOk p M
  · obtain ⟨A0, c0, B0, d0, rfl, rfl, -⟩ := hm.slices
    obtain ⟨vs, ⟨A, c, rfl, -, hnc, hc, hr⟩, hin⟩ := id h
    have hB0 := ((Below.refl w.heap.size w).alloc (Nat.le_refl _) (.cells #[.int .i64 p.c, .slice A p.x.length c] 36)).alloc (by simp) (.cells #[.slice A0 M.mem.length c0, .slice B0 M.ths.length d0] 41)
    have hC1 := impl_MachineOk _ _ _ p M _ (h.below hB0) (hm.below hB0)
    have HB0 := Lib.hid hB0
    rw [hok] at hC1
    have HC1 := Lib.hid hC1
    have HN : Hid (mvsF p M = []) := Lib.hid (by simp [mvsF, hok])
    clear hC1 hok hB0 hr hin
    go_enter Try.func28, Try.ntmps28
    go_wp2_with fail
    refine HC1.out.mono ?_
    rintro e w1 ⟨rfl, hb1⟩
    go_wp2_with fail
    go_ret
    exact ⟨_, [], rfl, by rw [HN.out]; exact Own.nil _ _, by simp, HB0.out.trans (hb1.mono HB0.out.size)⟩
  obtain ⟨b, o, c, bT, oT, d, A0, c0, rfl, rfl, rfl, hb, hbT, hc1, hc2, hc3, hc4, hc5, hc6, hl1, hl2, hl3, hl4, hEl⟩ := mach_open h hm hok
  obtain ⟨i, hi, hiz0, hiz1, hiz2⟩ := info_parts infoMv
  have hB0 := ((Below.refl w.heap.size w).alloc (Nat.le_refl _) (.cells #[.int .i64 p.c, .slice (some ⟨b, o, none⟩) p.x.length c] 36)).alloc (by simp) (.cells #[.slice A0 M.mem.length c0, .slice (some ⟨bT, oT, none⟩) M.ths.length d] 41)
  have k0 := (Bk.new w #[.int .i64 p.c, .slice (some ⟨b, o, none⟩) p.x.length c] 36).alloc (.cells #[.slice A0 M.mem.length c0, .slice (some ⟨bT, oT, none⟩) M.ths.length d] 41)
  have k1 := Bk.new (w.alloc (.cells #[.int .i64 p.c, .slice (some ⟨b, o, none⟩) p.x.length c] 36)) #[.slice A0 M.mem.length c0, .slice (some ⟨bT, oT, none⟩) M.ths.length d] 41
  simp only [World.size_alloc] at k1
  have hC1 := impl_MachineOk _ _ _ p M _ (h.below hB0) (hm.below hB0)
  rw [hok] at hC1
  have HC1 := Lib.hid hC1
  have HF : Hid (mvsF p M = mvsAt p M M.ths.length) := Lib.hid (by simp [mvsF, hok])
  have HB0 := Lib.hid hB0
  clear hC1 hok hB0
  go_enter Try.func28, Try.ntmps28
  go_wp2_with fail
  refine HC1.out.mono ?_
  rintro e w1 ⟨rfl, hb1⟩
  have hB0 := HB0.out.trans (hb1.mono HB0.out.size)
  have k0 := k0.below hb1 k0.lt
  have k1 := k1.below hb1 k1.lt
  have hO0 : w1.ownsRow (w.heap.size + 2) 54 2 (.slice none 0 0) 0 [] := World.ownsRow_nil _ _ _ _
  obtain ⟨z0, -⟩ := k1.at_ 1 (x := .slice (some ⟨bT, oT, none⟩) M.ths.length d) rfl
  clear hb1 HB0
  go_wp2_with fail
  clear z0
  go_loopw [5, 15] (fun l i' wr => ∃ (k : Nat) (L : List Mv), k ≤ M.ths.length ∧ i' = .int .i64 k ∧ L.length ≤ 2 * k ∧ Hid (L = mvsAt p M k) ∧ wr.ownsRow (w.heap.size + 2) 54 2 l L.length (mvCs L) ∧ Below w.heap.size w wr ∧ Bk wr w.heap.size #[.int .i64 p.c, .slice (some ⟨b, o, none⟩) p.x.length c] 36 ∧
    Bk wr (w.heap.size + 1) #[.slice A0 M.mem.length c0, .slice (some ⟨bT, oT, none⟩) M.ths.length d] 41) (fun _ i' _ => M.ths.length - (intOf i').toNat)
  case atStart => exact ⟨0, [], Nat.zero_le _, rfl, by simp, Lib.hid rfl, hO0, hB0, k0, k1⟩
  case round =>
    obtain ⟨k, L, hk, rfl, hLl, HL, hO, hB, kp, km⟩ := hrel
    clear hB0 k0 k1 hO0
    by_cases hlt : k < M.ths.length
    · obtain ⟨t, code, cv, av, fv, E⟩ := hEl wr hB k hlt
      obtain ⟨C, dc, rfl, -, hdc1, hdc2, -⟩ := id E.rc
      obtain ⟨Av, da, rfl, -, -, -, -⟩ := id E.ra
      obtain ⟨F, df, rfl, -, hdf1, hdf2, -⟩ := id E.rf
      have x1 := E.c1
      have x2 := E.c2
      have x3 := E.c3
      have HW := Lib.hid E.well
      have hklt' : (k : Int) < p.x.length := by omega
      have hbr : b < wr.heap.size := Nat.lt_of_lt_of_le hb hB.size
      have hA0 := (Below.refl wr.heap.size wr).alloc (Nat.le_refl _) (.cells #[.int .i64 t.pc, .slice Av t.v.length da, .slice F t.f.length df] 71)
      have hBw := hB.alloc hB.size (.cells #[.int .i64 t.pc, .slice Av t.v.length da, .slice F t.f.length df] 71)
      have kt := Bk.new wr #[.int .i64 t.pc, .slice Av t.v.length da, .slice F t.f.length df] 71
      have kpw := kp.alloc (.cells #[.int .i64 t.pc, .slice Av t.v.length da, .slice F t.f.length df] 71)
      have kmw := km.alloc (.cells #[.int .i64 t.pc, .slice Av t.v.length da, .slice F t.f.length df] 71)
      have hOw := ownsRow_below hO hA0
      have hrcw := E.rc.below hA0
      have x0 := (hA0.cell (p := ⟨b, o + k, none⟩) hbr).trans E.c0
      have hOlt := fun q hq => (hO.lt q hq).2
      obtain ⟨WW, hWW⟩ : ∃ WW, WW = wr.alloc (.cells #[.int .i64 t.pc, .slice Av t.v.length da, .slice F t.f.length df] 71) := ⟨_, rfl⟩
      have lbw : b < WW.heap.size := by rw [hWW]; simp; omega
      rw [← hWW] at hBw kt kpw kmw x0 hOw hrcw
      have HWW := Lib.hid hWW
      obtain ⟨g, hgs⟩ : ∃ g, wr.heap.size = g := ⟨_, rfl⟩
      have HG := Lib.hid hgs
      rw [hgs] at kt hOlt
      have HB := Lib.hid hBw
      have HOw := Lib.hid hOw
      have HOlt := Lib.hid hOlt
      have HN := Lib.hid (mvsAt_next HW.out)
      obtain ⟨t0, -⟩ := kt.at_ 0 (x := .int .i64 t.pc) rfl
      obtain ⟨t1, -⟩ := kt.at_ 1 (x := .slice Av t.v.length da) rfl
      obtain ⟨t2, -⟩ := kt.at_ 2 (x := .slice F t.f.length df) rfl
      obtain ⟨y1, -⟩ := kpw.at_ 1 (x := .slice (some ⟨b, o, none⟩) p.x.length c) rfl
      have p0 := Past.cell kt.lt t0
      have p1 := Past.cell kt.lt t1
      have p2 := Past.cell kt.lt t2
      have p3 := Past.cell kpw.lt y1
      have p4 := Past.cell lbw x0
      have hU := fun p : Past WW => impl_canExecute t (.slice Av t.v.length da) (.slice F t.f.length df) (.slice C code.length dc) code p.v (hrcw.below p.hb) ⟨_, _, rfl⟩ (thOk_parts HW.out.th).1
      have hV := fun W : World => impl_canDrain t (.slice Av t.v.length da) (.slice F t.f.length df) W ⟨_, _, rfl⟩
      clear t0 t1 t2 y1 hWW hgs hB hBw E hEl hO hOw hOlt hA0
      cases hx1 : canEx t code <;> cases hx2 : canDr t
      · rw [hx1] at hU
        rw [hx2] at hV
        have HLn : Hid (L = mvsAt p M (k + 1)) := Lib.hid (by rw [HN.out, ← HL.out]; simp [mvOf, hx1, hx2])
        have HU := Lib.hid hU
        have HV := Lib.hid hV
        clear hU hV hx1 hx2
        go_wp2_with fail
        rw [← HWW.out, HG.out]
        refine wp_region_past (by kernel_rfl) (by kernel_rfl) ?_
        repeat (go_big_quiet_step (first | (go_at_call 74; exact Calls.past_of (HU.out _))))
        refine wpQuiet_nil ?_
        intro _ hw'
        obtain ⟨p, rfl⟩ := hw'
        have hO1 := ownsRow_below HOw.out p.hb
        have hB1 := HB.out.trans (p.hb.mono HB.out.size)
        have kp1 := kpw.below p.hb kpw.lt
        have km1 := kmw.below p.hb kmw.lt
        have kt1 := kt.below p.hb kt.lt
        generalize p.v = w1 at hO1 hB1 kp1 km1 kt1 ⊢
        clear p0 p1 p2 p3 p4 kt kpw kmw x0 x1 x2 x3 HOw HB hrcw HU HWW HG kp km lbw
        have lk1 := km1.lt
        obtain ⟨y0, -⟩ := kt1.at_ 0 (x := .int .i64 t.pc) rfl
        obtain ⟨y1, -⟩ := kt1.at_ 1 (x := .slice Av t.v.length da) rfl
        obtain ⟨y2, -⟩ := kt1.at_ 2 (x := .slice F t.f.length df) rfl
        go_wp2_with fail
        refine (HV.out _).mono ?_
        rintro e w3 ⟨rfl, hb3⟩
        have hO3 := ownsRow_below hO1 hb3
        have hB3 := hB1.trans (hb3.mono hB1.size)
        have kp3 := kp1.below hb3 kp1.lt
        have km3 := km1.below hb3 km1.lt
        clear y0 y1 y2
        go_wp2_with fail
        exact ⟨⟨k + 1, _, by omega, by go_num, by first | omega | (simp; omega), HLn, hO3, hB3, kp3, km3⟩, by simp [intOf]; omega⟩
      · rw [hx1] at hU
        rw [hx2] at hV
        have HLn : Hid (L ++ [⟨k, true⟩] = mvsAt p M (k + 1)) := Lib.hid (by rw [HN.out, ← HL.out]; simp [mvOf, hx1, hx2])
        have HU := Lib.hid hU
        have HV := Lib.hid hV
        clear hU hV hx1 hx2
        go_wp2_with fail
        rw [← HWW.out, HG.out]
        refine wp_region_past (by kernel_rfl) (by kernel_rfl) ?_
        repeat (go_big_quiet_step (first | (go_at_call 74; exact Calls.past_of (HU.out _))))
        refine wpQuiet_nil ?_
        intro _ hw'
        obtain ⟨p, rfl⟩ := hw'
        have hO1 := ownsRow_below HOw.out p.hb
        have hB1 := HB.out.trans (p.hb.mono HB.out.size)
        have kp1 := kpw.below p.hb kpw.lt
        have km1 := kmw.below p.hb kmw.lt
        have kt1 := kt.below p.hb kt.lt
        generalize p.v = w1 at hO1 hB1 kp1 km1 kt1 ⊢
        clear p0 p1 p2 p3 p4 kt kpw kmw x0 x1 x2 x3 HOw HB hrcw HU HWW HG kp km lbw
        have lk1 := km1.lt
        obtain ⟨y0, -⟩ := kt1.at_ 0 (x := .int .i64 t.pc) rfl
        obtain ⟨y1, -⟩ := kt1.at_ 1 (x := .slice Av t.v.length da) rfl
        obtain ⟨y2, -⟩ := kt1.at_ 2 (x := .slice F t.f.length df) rfl
        go_wp2_with fail
        refine (HV.out _).mono ?_
        rintro e w3 ⟨rfl, hb3⟩
        have hO3 := ownsRow_below hO1 hb3
        have hB3 := hB1.trans (hb3.mono hB1.size)
        have kp3 := kp1.below hb3 kp1.lt
        have km3 := km1.below hb3 km1.lt
        clear y0 y1 y2
        have hl3 : L.length ≤ 2 * k + 1 := by first | omega | (simp; omega)
        have lk3 := km3.lt
        go_wp2_with (at_builtin; refine wpList_append_own _ rfl _ _ 57 rfl (w.heap.size + 2) 54 i (.agg #[.int .i64 0, .bool false]) 2 16 Try.underlying57 hi hiz0 hiz1 hiz2 rfl (by decide) _ _ _ rfl (hO3.alloc _) ⟨w3.heap.size, 0, none⟩ 1 1 [.int .i64 k, .bool true] rfl rfl (new_cells _ _ _) (by simp [Value.oneCell']) (by unfold maxLen; omega) (by omega) (by have := hB3.size; simp; omega) ?_)
        intro v4 w4 hO4 hg4 _
        have hB4 := (hB3.alloc hB3.size _).grown hg4 (by have := hB3.size; simp; omega) (fun k hk => by have := (hO3.lt k hk).1; omega)
        have hO4 := owns_snocM (x := ⟨k, true⟩) hO4
        have kp4 := (kp3.alloc (.cells #[.int .i64 k, .bool true] 54)).grown hg4 (fun q hq => by have := (hO3.lt q hq).1; omega)
        have km4 := (km3.alloc (.cells #[.int .i64 k, .bool true] 54)).grown hg4 (fun q hq => by have := (hO3.lt q hq).1; omega)
        go_wp2_with fail
        exact ⟨⟨k + 1, _, by omega, by go_num, by first | omega | (simp; omega), HLn, hO4, hB4, kp4, km4⟩, by simp [intOf]; omega⟩
      · rw [hx1] at hU
        rw [hx2] at hV
        have HLn : Hid (L ++ [⟨k, false⟩] = mvsAt p M (k + 1)) := Lib.hid (by rw [HN.out, ← HL.out]; simp [mvOf, hx1, hx2])
        have HU := Lib.hid hU
        have HV := Lib.hid hV
        clear hU hV hx1 hx2
        go_wp2_with fail
        rw [← HWW.out, HG.out]
        refine wp_region_past (by kernel_rfl) (by kernel_rfl) ?_
        repeat (go_big_quiet_step (first | (go_at_call 74; exact Calls.past_of (HU.out _))))
        refine wpQuiet_nil ?_
        intro _ hw'
        obtain ⟨p, rfl⟩ := hw'
        have hO1 := ownsRow_below HOw.out p.hb
        have hB1 := HB.out.trans (p.hb.mono HB.out.size)
        have kp1 := kpw.below p.hb kpw.lt
        have km1 := kmw.below p.hb kmw.lt
        have kt1 := kt.below p.hb kt.lt
        generalize p.v = w1 at hO1 hB1 kp1 km1 kt1 ⊢
        clear p0 p1 p2 p3 p4 kt kpw kmw x0 x1 x2 x3 HOw HB hrcw HU HWW HG kp km lbw
        have lk1 := km1.lt
        go_wp2_with (at_builtin; refine wpList_append_own _ rfl _ _ 57 rfl (w.heap.size + 2) 54 i (.agg #[.int .i64 0, .bool false]) 2 16 Try.underlying57 hi hiz0 hiz1 hiz2 rfl (by decide) _ _ _ rfl (hO1.alloc _) ⟨w1.heap.size, 0, none⟩ 1 1 [.int .i64 k, .bool false] rfl rfl (new_cells _ _ _) (by simp [Value.oneCell']) (by unfold maxLen; omega) (by omega) (by have := hB1.size; simp; omega) ?_)
        intro v2 w2 hO2 hg2 _
        have hB2 := (hB1.alloc hB1.size _).grown hg2 (by have := hB1.size; simp; omega) (fun k hk => by have := (hO1.lt k hk).1; omega)
        have hO2 := owns_snocM (x := ⟨k, false⟩) hO2
        have kp2 := (kp1.alloc (.cells #[.int .i64 k, .bool false] 54)).grown hg2 (fun q hq => by have := (hO1.lt q hq).1; have := HOlt.out q hq; omega)
        have km2 := (km1.alloc (.cells #[.int .i64 k, .bool false] 54)).grown hg2 (fun q hq => by have := (hO1.lt q hq).1; have := HOlt.out q hq; omega)
        have kt2 := (kt1.alloc (.cells #[.int .i64 k, .bool false] 54)).grown hg2 (fun q hq => by have := (hO1.lt q hq).1; have := HOlt.out q hq; omega)
        obtain ⟨L2, hL2⟩ : ∃ L2, L ++ [Mv.mk k false] = L2 := ⟨_, rfl⟩
        have hLl2 : L2.length ≤ 2 * k + 1 := by rw [← hL2]; simp; omega
        rw [hL2] at hO2 HLn
        clear hL2
        obtain ⟨y0, -⟩ := kt2.at_ 0 (x := .int .i64 t.pc) rfl
        obtain ⟨y1, -⟩ := kt2.at_ 1 (x := .slice Av t.v.length da) rfl
        obtain ⟨y2, -⟩ := kt2.at_ 2 (x := .slice F t.f.length df) rfl
        go_wp2_with fail
        refine (HV.out _).mono ?_
        rintro e w3 ⟨rfl, hb3⟩
        have hO3 := ownsRow_below hO2 hb3
        have hB3 := hB2.trans (hb3.mono hB2.size)
        have kp3 := kp2.below hb3 kp2.lt
        have km3 := km2.below hb3 km2.lt
        clear y0 y1 y2
        go_wp2_with fail
        exact ⟨⟨k + 1, _, by omega, by go_num, by first | omega | (simp; omega), HLn, hO3, hB3, kp3, km3⟩, by simp [intOf]; omega⟩
      · rw [hx1] at hU
        rw [hx2] at hV
        have HLn : Hid (L ++ [⟨k, false⟩] ++ [⟨k, true⟩] = mvsAt p M (k + 1)) := Lib.hid (by rw [HN.out, ← HL.out]; simp [mvOf, hx1, hx2])
        have HU := Lib.hid hU
        have HV := Lib.hid hV
        clear hU hV hx1 hx2
        go_wp2_with fail
        rw [← HWW.out, HG.out]
        refine wp_region_past (by kernel_rfl) (by kernel_rfl) ?_
        repeat (go_big_quiet_step (first | (go_at_call 74; exact Calls.past_of (HU.out _))))
        refine wpQuiet_nil ?_
        intro _ hw'
        obtain ⟨p, rfl⟩ := hw'
        have hO1 := ownsRow_below HOw.out p.hb
        have hB1 := HB.out.trans (p.hb.mono HB.out.size)
        have kp1 := kpw.below p.hb kpw.lt
        have km1 := kmw.below p.hb kmw.lt
        have kt1 := kt.below p.hb kt.lt
        generalize p.v = w1 at hO1 hB1 kp1 km1 kt1 ⊢
        clear p0 p1 p2 p3 p4 kt kpw kmw x0 x1 x2 x3 HOw HB hrcw HU HWW HG kp km lbw
        have lk1 := km1.lt
        go_wp2_with (at_builtin; refine wpList_append_own _ rfl _ _ 57 rfl (w.heap.size + 2) 54 i (.agg #[.int .i64 0, .bool false]) 2 16 Try.underlying57 hi hiz0 hiz1 hiz2 rfl (by decide) _ _ _ rfl (hO1.alloc _) ⟨w1.heap.size, 0, none⟩ 1 1 [.int .i64 k, .bool false] rfl rfl (new_cells _ _ _) (by simp [Value.oneCell']) (by unfold maxLen; omega) (by omega) (by have := hB1.size; simp; omega) ?_)
        intro v2 w2 hO2 hg2 _
        have hB2 := (hB1.alloc hB1.size _).grown hg2 (by have := hB1.size; simp; omega) (fun k hk => by have := (hO1.lt k hk).1; omega)
        have hO2 := owns_snocM (x := ⟨k, false⟩) hO2
        have kp2 := (kp1.alloc (.cells #[.int .i64 k, .bool false] 54)).grown hg2 (fun q hq => by have := (hO1.lt q hq).1; have := HOlt.out q hq; omega)
        have km2 := (km1.alloc (.cells #[.int .i64 k, .bool false] 54)).grown hg2 (fun q hq => by have := (hO1.lt q hq).1; have := HOlt.out q hq; omega)
        have kt2 := (kt1.alloc (.cells #[.int .i64 k, .bool false] 54)).grown hg2 (fun q hq => by have := (hO1.lt q hq).1; have := HOlt.out q hq; omega)
        obtain ⟨L2, hL2⟩ : ∃ L2, L ++ [Mv.mk k false] = L2 := ⟨_, rfl⟩
        have hLl2 : L2.length ≤ 2 * k + 1 := by rw [← hL2]; simp; omega
        rw [hL2] at hO2 HLn
        clear hL2
        obtain ⟨y0, -⟩ := kt2.at_ 0 (x := .int .i64 t.pc) rfl
        obtain ⟨y1, -⟩ := kt2.at_ 1 (x := .slice Av t.v.length da) rfl
        obtain ⟨y2, -⟩ := kt2.at_ 2 (x := .slice F t.f.length df) rfl
        go_wp2_with fail
        refine (HV.out _).mono ?_
        rintro e w3 ⟨rfl, hb3⟩
        have hO3 := ownsRow_below hO2 hb3
        have hB3 := hB2.trans (hb3.mono hB2.size)
        have kp3 := kp2.below hb3 kp2.lt
        have km3 := km2.below hb3 km2.lt
        clear y0 y1 y2
        have hl3 : L2.length ≤ 2 * k + 1 := by first | omega | (simp; omega)
        have lk3 := km3.lt
        go_wp2_with (at_builtin; refine wpList_append_own _ rfl _ _ 57 rfl (w.heap.size + 2) 54 i (.agg #[.int .i64 0, .bool false]) 2 16 Try.underlying57 hi hiz0 hiz1 hiz2 rfl (by decide) _ _ _ rfl (hO3.alloc _) ⟨w3.heap.size, 0, none⟩ 1 1 [.int .i64 k, .bool true] rfl rfl (new_cells _ _ _) (by simp [Value.oneCell']) (by unfold maxLen; omega) (by omega) (by have := hB3.size; simp; omega) ?_)
        intro v4 w4 hO4 hg4 _
        have hB4 := (hB3.alloc hB3.size _).grown hg4 (by have := hB3.size; simp; omega) (fun k hk => by have := (hO3.lt k hk).1; omega)
        have hO4 := owns_snocM (x := ⟨k, true⟩) hO4
        have kp4 := (kp3.alloc (.cells #[.int .i64 k, .bool true] 54)).grown hg4 (fun q hq => by have := (hO3.lt q hq).1; omega)
        have km4 := (km3.alloc (.cells #[.int .i64 k, .bool true] 54)).grown hg4 (fun q hq => by have := (hO3.lt q hq).1; omega)
        go_wp2_with fail
        exact ⟨⟨k + 1, _, by omega, by go_num, by first | omega | (simp; omega), HLn, hO4, hB4, kp4, km4⟩, by simp [intOf]; omega⟩
    · obtain rfl : k = M.ths.length := by omega
      go_wp2_with fail
      go_ret
      rw [HL.out, ← HF.out] at hO
      obtain ⟨bs, h1, h2⟩ := Own.of_owns hO
      exact ⟨_, bs, rfl, h1, fun x hx => by have := h2 x hx; omega, hB⟩
end Go.Proofs.Ytiflooopfpcelaa

/- Contracts of CanMove and spec.Moves. Condition: the program and the machine can be read. -/
namespace Go.Proofs.Ytiflooopfpcelaa
set_option maxRecDepth 20000
set_option linter.unusedSimpArgs false
set_option linter.unusedVariables false
open Go.ChangeShapes Go.WideShapes Go.ChangeAt Go.RowKit
def isMv (m x : Mv) : Bool := decide (m = x)
set_option maxHeartbeats 1600000 in
theorem mv_Index (v : Value) (xs : List Mv) (m : Mv) (w : World) (h : Rd w v 2 xs.length (mvCs xs)) :
    Calls Try.prog 115 #[v, .agg #[.int .i64 m.t, .bool m.d]] w fun e w' => ∃ r : Int, e = .returned (.int .i64 r) ∧ Hid (decide (0 ≤ r) = xs.any (isMv m)) ∧ Below w.heap.size w w' := by
  obtain ⟨A, c, rfl, -, hnc, hc, hr⟩ := h
  unfold maxLen at hc
  obtain ⟨mt, md⟩ := m
  have hB0 := (Below.refl w.heap.size w).alloc (Nat.le_refl _) (.cells #[.int .i64 mt, .bool md] 54)
  have K := Bk.new w #[.int .i64 mt, .bool md] 54
  obtain ⟨W0, hW0⟩ : ∃ W0, W0 = w.alloc (.cells #[.int .i64 mt, .bool md] 54) := ⟨_, rfl⟩
  rw [← hW0] at hB0 K
  have HW0 := Lib.hid hW0
  clear hW0
  go_enter Try.func115, Try.ntmps115
  go_wp2_with fail
  rw [← HW0.out]
  go_loopw [8] (fun i wr => ∃ (k nq : Nat), k ≤ xs.length ∧ i = .int .i64 k ∧ Hid (xs.any (isMv ⟨mt, md⟩) = (xs.drop k).any (isMv ⟨mt, md⟩)) ∧ wr = W0.drewN nq) (fun i _ => xs.length - (intOf i).toNat)
  case atStart => exact ⟨0, 0, Nat.zero_le _, rfl, Lib.hid rfl, rfl⟩
  case round =>
    obtain ⟨k, nq, hk, rfl, HA, rfl⟩ := hrel
    obtain ⟨k0, -⟩ := K.at_ 0 (x := .int .i64 mt) rfl
    obtain ⟨k1, -⟩ := K.at_ 1 (x := .bool md) rfl
    by_cases hlt : k < xs.length
    · obtain ⟨b, o, rfl, hb, hcell⟩ := hr (by omega)
      obtain ⟨y, hyk, hy0, hy1⟩ := mv_at (wr := W0) hcell hlt hB0 hb
      obtain ⟨yt, yd⟩ := y
      simp only at hy0 hy1
      have hdr : xs.drop k = ⟨yt, yd⟩ :: xs.drop (k + 1) := by
        obtain ⟨h1, h2⟩ := List.getElem?_eq_some_iff.1 hyk.out
        rw [List.drop_eq_getElem_cons h1, h2]
      have hklt : (k : Int) < xs.length := by omega
      clear hcell hr
      by_cases he : mt = yt
      · by_cases hd : md = yd
        · subst he hd
          have HH : Hid (xs.any (isMv ⟨mt, md⟩) = true) := Lib.hid (by rw [HA.out, hdr]; simp [isMv])
          have e1 : (mt == mt) = true := by simp
          have e2 : (md == md) = true := by simp
          clear hdr
          go_wp2_with fail
          go_quiet (fail)
          go_wp2_with fail
          go_ret
          exact ⟨_, rfl, Lib.hid (by rw [HH.out]; simp), below_more (below_more hB0 _) _⟩
        · have HH : Hid (xs.any (isMv ⟨mt, md⟩) = (xs.drop (k + 1)).any (isMv ⟨mt, md⟩)) := Lib.hid (by rw [HA.out, hdr]; simp [isMv, hd])
          subst he
          have e1 : (mt == mt) = true := by simp
          have e2 : (md == yd) = false := by simp [hd]
          clear hdr hd
          go_wp2_with fail
          go_quiet (fail)
          go_wp2_with fail
          exact ⟨⟨k + 1, _, by omega, by go_num, HH, rfl⟩, by simp [intOf]; omega⟩
      · have HH : Hid (xs.any (isMv ⟨mt, md⟩) = (xs.drop (k + 1)).any (isMv ⟨mt, md⟩)) := Lib.hid (by rw [HA.out, hdr]; simp [isMv, he])
        have e1 : (mt == yt) = false := by simp [he]
        clear hdr he
        go_wp2_with fail
        go_quiet (fail)
        go_wp2_with fail
        exact ⟨⟨k + 1, _, by omega, by go_num, HH, rfl⟩, by simp [intOf]; omega⟩
    · obtain rfl : k = xs.length := by omega
      have HH : Hid (xs.any (isMv ⟨mt, md⟩) = false) := Lib.hid (by rw [HA.out]; simp)
      go_wp2_with fail
      go_ret
      exact ⟨_, rfl, Lib.hid (by rw [HH.out]; simp), below_more hB0 _⟩
set_option maxHeartbeats 400000 in
theorem mv_Contains (v : Value) (xs : List Mv) (m : Mv) (w : World) (h : Rd w v 2 xs.length (mvCs xs)) :
    Calls Try.prog 72 #[v, .agg #[.int .i64 m.t, .bool m.d]] w fun e w' => e = .returned (.bool (xs.any (isMv m))) ∧ Below w.heap.size w w' := by
  obtain ⟨A, c, rfl, -⟩ := id h
  have hB0 := (Below.refl w.heap.size w).alloc (Nat.le_refl _) (.cells #[.int .i64 m.t, .bool m.d] 54)
  go_enter Try.func72, Try.ntmps72
  go_wp2_with fail
  refine (mv_Index _ xs m _ (h.below hB0)).mono ?_
  rintro e w1 ⟨r, rfl, HR, hb1⟩
  go_wp2_with fail
  go_ret
  exact ⟨ret_bool HR.out, hB0.trans (hb1.mono hB0.size)⟩
theorem mem_mvOf {k j : Nat} {q : Th × List Ins} {m : Mv} (h : m ∈ mvOf j q) : m.t = j ∧ canT m.d q.1 q.2 = true := by
  unfold mvOf at h
  rcases List.mem_append.1 h with h | h
  · split at h
    · rename_i hc
      simp only [List.mem_singleton] at h
      subst h
      exact ⟨rfl, by simpa [canT] using hc⟩
    · simp at h
  · split at h
    · rename_i hc
      simp only [List.mem_singleton] at h
      subst h
      exact ⟨rfl, by simpa [canT] using hc⟩
    · simp at h
theorem mem_of_can {j : Nat} {q : Th × List Ins} {d : Bool} (h : canT d q.1 q.2 = true) : (⟨j, d⟩ : Mv) ∈ mvOf j q := by
  unfold mvOf
  cases d
  · refine List.mem_append.2 (.inl ?_)
    have : canEx q.1 q.2 = true := by simpa [canT] using h
    rw [if_pos this]
    simp
  · refine List.mem_append.2 (.inr ?_)
    have : canDr q.1 = true := by simpa [canT] using h
    rw [if_pos this]
    simp
/-- a move stands in the list just where it can be done -/
theorem mvsF_any (p : Pr) (M : Ma) (m : Mv) : (mvsF p M).any (isMv m) = canMv p M m := by
  rw [Bool.eq_iff_iff, List.any_eq_true]
  unfold mvsF canMv
  cases hok : machOk p M
  · simp
  · obtain ⟨h1, -, -, h4, -⟩ := machOk_parts hok
    have hpl := progOk_len h1
    simp only [if_true, Bool.true_and, Bool.and_eq_true]
    constructor
    · rintro ⟨x, hx, he⟩
      obtain rfl : m = x := by simpa [isMv] using he
      unfold mvsAt at hx
      obtain ⟨j, hj, hm⟩ := List.mem_flatMap.1 hx
      have hj' := List.mem_range.1 hj
      obtain ⟨e1, e2⟩ := mem_mvOf (k := 0) hm
      refine ⟨by simp only [inB, Bool.and_eq_true, decide_eq_true_eq]; omega, ?_⟩
      unfold canAt
      rw [e1, Int.toNat_natCast]
      exact e2
    · rintro ⟨hi, hc⟩
      have := inB_true hi
      obtain ⟨mt, md⟩ := m
      simp only at this
      refine ⟨⟨mt, md⟩, ?_, by simp [isMv]⟩
      unfold mvsAt
      refine List.mem_flatMap.2 ⟨mt.toNat, List.mem_range.2 (by omega), ?_⟩
      have e : (⟨mt, md⟩ : Mv) = ⟨(mt.toNat : Int), md⟩ := by rw [Int.toNat_of_nonneg this.1]
      rw [e]
      exact mem_of_can hc
set_option maxHeartbeats 1600000 in
theorem impl_CanMove (v mv tv : Value) (p : Pr) (M : Ma) (m : Mv) (w : World) (h : RdSS w v p.x) (hm : RdMa w mv tv M) :
    Calls Try.prog 26 #[.agg #[.int .i64 p.c, v], .agg #[mv, tv], .agg #[.int .i64 m.t, .bool m.d]] w fun e w' => e = .returned (.bool (canMv p M m)) ∧ Below w.heap.size w w' := by
  obtain ⟨A0, c0, B0, d0, rfl, rfl, -⟩ := hm.slices
  obtain ⟨vs, ⟨A, c, rfl, -, hnc, hc, hr⟩, hin⟩ := id h
  have hB0 := (((Below.refl w.heap.size w).alloc (Nat.le_refl _) (.cells #[.int .i64 p.c, .slice A p.x.length c] 36)).alloc (by simp) (.cells #[.slice A0 M.mem.length c0, .slice B0 M.ths.length d0] 41)).alloc (by simp; omega) (.cells #[.int .i64 m.t, .bool m.d] 54)
  have k0 := ((Bk.new w #[.int .i64 p.c, .slice A p.x.length c] 36).alloc (.cells #[.slice A0 M.mem.length c0, .slice B0 M.ths.length d0] 41)).alloc (.cells #[.int .i64 m.t, .bool m.d] 54)
  have k1 := (Bk.new (w.alloc (.cells #[.int .i64 p.c, .slice A p.x.length c] 36)) #[.slice A0 M.mem.length c0, .slice B0 M.ths.length d0] 41).alloc (.cells #[.int .i64 m.t, .bool m.d] 54)
  have k2 := Bk.new ((w.alloc (.cells #[.int .i64 p.c, .slice A p.x.length c] 36)).alloc (.cells #[.slice A0 M.mem.length c0, .slice B0 M.ths.length d0] 41)) #[.int .i64 m.t, .bool m.d] 54
  simp only [World.size_alloc] at k1 k2
  obtain ⟨W0, hW0⟩ : ∃ W0, W0 = ((w.alloc (.cells #[.int .i64 p.c, .slice A p.x.length c] 36)).alloc (.cells #[.slice A0 M.mem.length c0, .slice B0 M.ths.length d0] 41)).alloc (.cells #[.int .i64 m.t, .bool m.d] 54) := ⟨_, rfl⟩
  rw [← hW0] at hB0 k0 k1 k2
  have HW0 := Lib.hid hW0
  have HB0 := Lib.hid hB0
  have hS : Hid (∀ W : World, Below W0.heap.size W0 W → Below W0.heap.size W0 W ∧ W.cell? ⟨w.heap.size, 0, none⟩ = some (.int .i64 p.c) ∧ W.cell? ⟨w.heap.size, 1, none⟩ = some (.slice A p.x.length c) ∧
      W.cell? ⟨w.heap.size + 1, 0, none⟩ = some (.slice A0 M.mem.length c0) ∧ W.cell? ⟨w.heap.size + 1, 1, none⟩ = some (.slice B0 M.ths.length d0) ∧
      W.cell? ⟨w.heap.size + 1 + 1, 0, none⟩ = some (.int .i64 m.t) ∧ W.cell? ⟨w.heap.size + 1 + 1, 1, none⟩ = some (.bool m.d)) :=
    Lib.hid fun W hW => ⟨hW, ((k0.below hW k0.lt).at_ 0 rfl).1, ((k0.below hW k0.lt).at_ 1 rfl).1, ((k1.below hW k1.lt).at_ 0 rfl).1, ((k1.below hW k1.lt).at_ 1 rfl).1, ((k2.below hW k2.lt).at_ 0 rfl).1, ((k2.below hW k2.lt).at_ 1 rfl).1⟩
  clear hr hin hW0 hB0 k0 k1 k2
  go_enter Try.func26, Try.ntmps26
  go_wp2_with fail
  rw [← HW0.out]
  go_region_held3 (fun W => Below W0.heap.size W0 W ∧ W.cell? ⟨w.heap.size, 0, none⟩ = some (.int .i64 p.c) ∧ W.cell? ⟨w.heap.size, 1, none⟩ = some (.slice A p.x.length c) ∧
      W.cell? ⟨w.heap.size + 1, 0, none⟩ = some (.slice A0 M.mem.length c0) ∧ W.cell? ⟨w.heap.size + 1, 1, none⟩ = some (.slice B0 M.ths.length d0) ∧
      W.cell? ⟨w.heap.size + 1 + 1, 0, none⟩ = some (.int .i64 m.t) ∧ W.cell? ⟨w.heap.size + 1 + 1, 1, none⟩ = some (.bool m.d)) (first | (exact hS.out _ (Below.refl _ _).drew) | (exact hS.out _ (by assumption)))
    (first
      | (go_at_call 28; have hq := ‹Below W0.heap.size W0 _ ∧ _›.1; refine (impl_Moves _ _ _ p M _ (h.below (HB0.out.trans (hq.mono HB0.out.size))) (hm.below (HB0.out.trans (hq.mono HB0.out.size)))).mono ?_; rintro e w8 ⟨v8, bs8, rfl, ho8, hlo8, hb8⟩; obtain ⟨A8, c8, rfl, -, -⟩ := ho8.slice; have hq2 := hq.trans (hb8.mono hq.size); clear hq)
      | (go_at_call 72; have hq := ‹Below W0.heap.size W0 _ ∧ _›.1; refine (mv_Contains _ (mvsF p M) m _ ho8.rd).mono ?_; rintro e w9 ⟨rfl, hb9⟩; have hq3 := hq.trans (hb9.mono hq.size); clear hq))
  all_goals
    have hq := ‹Below W0.heap.size W0 _ ∧ _›.1
    have HF := Lib.hid (mvsF_any p M m)
    rw [HF.out]
    go_wp2_with fail
    go_ret
    exact ⟨rfl, HB0.out.trans (hq.mono HB0.out.size)⟩
end Go.Proofs.Ytiflooopfpcelaa
