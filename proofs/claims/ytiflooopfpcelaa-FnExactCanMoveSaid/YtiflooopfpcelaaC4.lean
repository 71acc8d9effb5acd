/- Contract of impl.MachineOk. Condition: the program and the machine can be read. -/
import Derived.Test.YtiflooopfpcelaaC3
namespace Go.Proofs.Ytiflooopfpcelaa
set_option maxRecDepth 20000
set_option linter.unusedSimpArgs false
set_option linter.unusedVariables false
open Go.ChangeShapes Go.WideShapes Go.ChangeAt Go.RowKit
set_option maxHeartbeats 6400000 in
theorem impl_MachineOk (v mv tv : Value) (p : Pr) (M : Ma) (w : World) (h : RdSS w v p.x) (hm : RdMa w mv tv M) :
    Calls Try.prog 16 #[.agg #[.int .i64 p.c, v], .agg #[mv, tv]] w fun e w' => e = .returned (.bool (machOk p M)) ∧ Below w.heap.size w w' := by
  obtain ⟨A0, c0, B0, d0, rfl, rfl, -, hBd, hcc, hdc⟩ := hm.slices
  have hmem := hm.mem
  obtain ⟨vsT, hvl, ⟨A', c', hAe, -, -, -, hrT⟩, hinT⟩ := hm.ths
  injection hAe with hAe1 _ hAe3
  subst hAe1 hAe3
  have hpR := h
  obtain ⟨vs, ⟨A, c, rfl, -, hnc, hc, hr⟩, hin⟩ := h
  unfold maxLen at hc
  obtain ⟨pc, px⟩ := p
  obtain ⟨mem, ths⟩ := M
  simp only at *
  have hB0 := ((Below.refl w.heap.size w).alloc (Nat.le_refl _) (.cells #[.int .i64 pc, .slice A px.length c] 36)).alloc (by simp) (.cells #[.slice A0 mem.length c0, .slice B0 ths.length d0] 41)
  have k0 := (Bk.new w #[.int .i64 pc, .slice A px.length c] 36).alloc (.cells #[.slice A0 mem.length c0, .slice B0 ths.length d0] 41)
  have k1 := Bk.new (w.alloc (.cells #[.int .i64 pc, .slice A px.length c] 36)) #[.slice A0 mem.length c0, .slice B0 ths.length d0] 41
  simp only [World.size_alloc] at k1
  have hC1 := impl_ProgOk _ ⟨pc, px⟩ _ (hpR.below hB0)
  have HB0 := Lib.hid hB0
  clear hB0
  cases hp : progOkF ⟨pc, px⟩
  · rw [hp] at hC1
    have HN : Hid (machOk ⟨pc, px⟩ ⟨mem, ths⟩ = false) := Lib.hid (by simp [machOk, hp])
    have HC1 := Lib.hid hC1
    clear hr hin hrT hinT hp hC1
    go_enter Try.func16, Try.ntmps16
    go_wp2_with fail
    refine HC1.out.mono ?_
    rintro e w1 ⟨rfl, hb1⟩
    go_wp2_with fail
    go_ret
    exact ⟨ret_bool HN.out.symm, HB0.out.trans (hb1.mono HB0.out.size)⟩
  rw [hp] at hC1
  have HP := Lib.hid hp
  have hpl := progOk_len hp
  simp only at hpl
  clear hp
  have HC1 := Lib.hid hC1
  clear hC1
  cases hme : memOk mem
  · have HN : Hid (machOk ⟨pc, px⟩ ⟨mem, ths⟩ = false) := Lib.hid (by simp [machOk, hme])
    clear hr hin hrT hinT
    go_enter Try.func16, Try.ntmps16
    go_wp2_with fail
    refine HC1.out.mono ?_
    rintro e w1 ⟨rfl, hb1⟩
    have hB1 := HB0.out.trans (hb1.mono HB0.out.size)
    obtain ⟨q0, -⟩ := (k1.below hb1 k1.lt).at_ 0 (x := .slice A0 mem.length c0) rfl
    have HB1 := Lib.hid hB1
    have hC2 := impl_MemOk _ mem _ (hmem.below hB1)
    rw [hme] at hC2
    have HC2 := Lib.hid hC2
    clear hB1 hC2 hme
    go_wp2_with fail
    refine HC2.out.mono ?_
    rintro e w2 ⟨rfl, hb2⟩
    go_wp2_with fail
    go_ret
    exact ⟨ret_bool HN.out.symm, HB1.out.trans (hb2.mono HB1.out.size)⟩
  by_cases hgood : ¬ ((mem.length : Int) = pc ∧ ths.length = px.length)
  · have HN : Hid (machOk ⟨pc, px⟩ ⟨mem, ths⟩ = false) := Lib.hid (by
      by_cases h1 : (mem.length : Int) = pc
      · have h2 : ¬ ths.length = px.length := fun h => hgood ⟨h1, h⟩
        simp [machOk, h2]
      · simp [machOk, h1])
    have hcase : ((mem.length : Int) != pc) = true ∨ (((mem.length : Int) != pc) = false ∧ ((ths.length : Int) != (px.length : Int)) = true) := by
      by_cases h1 : (mem.length : Int) = pc
      · have h2 : ¬ ths.length = px.length := fun h => hgood ⟨h1, h⟩
        exact .inr ⟨by simp [h1], by simp; omega⟩
      · exact .inl (by simp [h1])
    clear hr hin hrT hinT hgood
    rcases hcase with h1 | ⟨h1, h2⟩
    all_goals
      go_enter Try.func16, Try.ntmps16
      go_wp2_with fail
      refine HC1.out.mono ?_
      rintro e w1 ⟨rfl, hb1⟩
      have hB1 := HB0.out.trans (hb1.mono HB0.out.size)
      obtain ⟨q0, -⟩ := (k1.below hb1 k1.lt).at_ 0 (x := .slice A0 mem.length c0) rfl
      have HB1 := Lib.hid hB1
      have hC2 := impl_MemOk _ mem _ (hmem.below hB1)
      rw [hme] at hC2
      have HC2 := Lib.hid hC2
      clear hB1 hC2 hme
      go_wp2_with fail
      refine HC2.out.mono ?_
      rintro e w2 ⟨rfl, hb2⟩
      obtain ⟨q0', -⟩ := ((k1.below hb1 k1.lt).below hb2 (k1.below hb1 k1.lt).lt).at_ 0 (x := .slice A0 mem.length c0) rfl
      obtain ⟨q1', -⟩ := ((k1.below hb1 k1.lt).below hb2 (k1.below hb1 k1.lt).lt).at_ 1 (x := .slice B0 ths.length d0) rfl
      obtain ⟨q2', -⟩ := ((k0.below hb1 k0.lt).below hb2 (k0.below hb1 k0.lt).lt).at_ 0 (x := .int .i64 pc) rfl
      obtain ⟨q3', -⟩ := ((k0.below hb1 k0.lt).below hb2 (k0.below hb1 k0.lt).lt).at_ 1 (x := .slice A px.length c) rfl
      go_wp2_with fail
      go_ret
      exact ⟨ret_bool HN.out.symm, HB1.out.trans (hb2.mono HB1.out.size)⟩
  obtain ⟨hg1, hg2⟩ := Classical.not_not.1 hgood
  clear hgood
  have HF : Hid (machOk ⟨pc, px⟩ ⟨mem, ths⟩ = (ths.zip px).all (thQ pc)) := Lib.hid (by simp [machOk, HP.out, hme, hg1, hg2])
  have e1 : ((mem.length : Int) != pc) = false := by simp [hg1]
  have e2 : ((ths.length : Int) != (px.length : Int)) = false := by simp [hg2]
  have hg2' : ths.length ≤ px.length ∧ px.length ≤ ths.length := by omega
  clear hg1 hg2
  obtain ⟨bT, oT, rfl, hbT, hcT⟩ := hrT (by omega)
  obtain ⟨b, o, rfl, hb, hcell⟩ := hr (by omega)
  go_enter Try.func16, Try.ntmps16
  go_wp2_with fail
  refine HC1.out.mono ?_
  rintro e w1 ⟨rfl, hb1⟩
  have hB1 := HB0.out.trans (hb1.mono HB0.out.size)
  have k0' := k0.below hb1 k0.lt
  have k1' := k1.below hb1 k1.lt
  obtain ⟨q0, -⟩ := k1'.at_ 0 (x := .slice A0 mem.length c0) rfl
  have hC2 := impl_MemOk _ mem _ (hmem.below hB1)
  have HB1 := Lib.hid hB1
  rw [hme] at hC2
  have HC2 := Lib.hid hC2
  clear hB1 hC2 hme
  go_wp2_with fail
  refine HC2.out.mono ?_
  rintro e w2 ⟨rfl, hb2⟩
  have k0 := k0'.below hb2 k0'.lt
  have k1 := k1'.below hb2 k1'.lt
  have hB0 := HB1.out.trans (hb2.mono HB1.out.size)
  clear k0' k1' q0 hb1 hb2 HB1 HC2 HC1 HB0
  obtain ⟨q0', -⟩ := k1.at_ 0 (x := .slice A0 mem.length c0) rfl
  obtain ⟨q1', -⟩ := k1.at_ 1 (x := .slice (some ⟨bT, oT, none⟩) ths.length d0) rfl
  obtain ⟨q2', -⟩ := k0.at_ 0 (x := .int .i64 pc) rfl
  obtain ⟨q3', -⟩ := k0.at_ 1 (x := .slice (some ⟨b, o, none⟩) px.length c) rfl
  go_wp2_with fail
  clear q0' q1' q2' q3'
  go_loopw [37] (fun i wr => ∃ k : Nat, k ≤ ths.length ∧ i = .int .i64 k ∧ Hid (((ths.zip px).take k).all (thQ pc) = true) ∧ Below w.heap.size w wr ∧ Bk wr w.heap.size #[.int .i64 pc, .slice (some ⟨b, o, none⟩) px.length c] 36 ∧
    Bk wr (w.heap.size + 1) #[.slice A0 mem.length c0, .slice (some ⟨bT, oT, none⟩) ths.length d0] 41) (fun i _ => ths.length - (intOf i).toNat)
  case atStart => exact ⟨0, Nat.zero_le _, rfl, Lib.hid (by simp), hB0, k0, k1⟩
  case round =>
    obtain ⟨k, hk, rfl, HA, hB, kp, km⟩ := hrel
    clear hB0 k0 k1
    obtain ⟨z1, -⟩ := km.at_ 1 (x := .slice (some ⟨bT, oT, none⟩) ths.length d0) rfl
    by_cases hlt : k < ths.length
    · obtain ⟨t, a1, a2, HT, HPv, hx0, hx1, hx2⟩ := th_at hvl hcT hlt hB hbT
      obtain ⟨ra, rb⟩ := hinT k t (a1, a2) HT.out HPv.out
      have hcx : px[k]? = some px[k] := List.getElem?_eq_getElem (by omega)
      generalize px[k] = code at hcx
      obtain ⟨ck, hck, hrk⟩ := hin.at_ hcx
      have hx := (hB.cell (p := ⟨b, o + k, none⟩) hb).trans (hcell k _ hck)
      have HZ := Lib.hid (zip_at HT.out hcx)
      obtain ⟨Ak, dk, rfl, -, hnk, hdk, -⟩ := id hrk
      have hrk1 := hrk.below hB
      unfold maxLen at hdk
      have ra1 := ra.below hB
      have rb1 := rb.below hB
      obtain ⟨Av, cv, rfl, -, hnv, hcv, hrv⟩ := id ra1
      obtain ⟨Af, cf, rfl, -, hnf, hcf, hrf⟩ := id rb1
      unfold maxLen at hcv hcf
      have lb : b < wr.heap.size := Nat.lt_of_lt_of_le hb hB.size
      clear hcT hcell hrk hcx hck hr hin hinT ra rb HPv
      have hBw := hB.alloc hB.size (.cells #[.int .i64 t.pc, .slice Av t.v.length cv, .slice Af t.f.length cf] 71)
      have kt := Bk.new wr #[.int .i64 t.pc, .slice Av t.v.length cv, .slice Af t.f.length cf] 71
      have kpw := kp.alloc (.cells #[.int .i64 t.pc, .slice Av t.v.length cv, .slice Af t.f.length cf] 71)
      have kmw := km.alloc (.cells #[.int .i64 t.pc, .slice Av t.v.length cv, .slice Af t.f.length cf] 71)
      have hxw := (((Below.refl wr.heap.size wr).alloc (Nat.le_refl _) (.cells #[.int .i64 t.pc, .slice Av t.v.length cv, .slice Af t.f.length cf] 71)).cell (p := ⟨b, o + k, none⟩) lb).trans hx
      have raw := ra1.below ((Below.refl wr.heap.size wr).alloc (Nat.le_refl _) (.cells #[.int .i64 t.pc, .slice Av t.v.length cv, .slice Af t.f.length cf] 71))
      have rbw := rb1.below ((Below.refl wr.heap.size wr).alloc (Nat.le_refl _) (.cells #[.int .i64 t.pc, .slice Av t.v.length cv, .slice Af t.f.length cf] 71))
      have hrkw := Lib.hid (hrk1.below ((Below.refl wr.heap.size wr).alloc (Nat.le_refl _) (.cells #[.int .i64 t.pc, .slice Av t.v.length cv, .slice Af t.f.length cf] 71)))
      obtain ⟨WW, hWW⟩ : ∃ WW, WW = wr.alloc (.cells #[.int .i64 t.pc, .slice Av t.v.length cv, .slice Af t.f.length cf] 71) := ⟨_, rfl⟩
      have lbw : b < WW.heap.size := by rw [hWW]; simp; omega
      rw [← hWW] at hBw kt kpw kmw hxw raw rbw hrkw
      have HWW := Lib.hid hWW
      have hgs : ∃ g, wr.heap.size = g := ⟨_, rfl⟩
      obtain ⟨g, hgs⟩ := hgs
      have HG := Lib.hid hgs
      rw [hgs] at kt
      have HB := Lib.hid hBw
      clear hWW hgs hB hBw hx
      have hklt : (k : Int) < px.length := by omega
      obtain ⟨t0, -⟩ := kt.at_ 0 (x := .int .i64 t.pc) rfl
      obtain ⟨t1, -⟩ := kt.at_ 1 (x := .slice Av t.v.length cv) rfl
      obtain ⟨t2, -⟩ := kt.at_ 2 (x := .slice Af t.f.length cf) rfl
      obtain ⟨y1, -⟩ := kpw.at_ 1 (x := .slice (some ⟨b, o, none⟩) px.length c) rfl
      have p0 := Past.cell kt.lt t0
      have p1 := Past.cell kt.lt t1
      have p2 := Past.cell kt.lt t2
      have p3 := Past.cell kpw.lt y1
      have p4 := Past.cell lbw hxw
      have y2 := (kpw.at_ 0 (x := .int .i64 pc) rfl).1
      have p5 := Past.cell kpw.lt y2
      have hU := fun p : Past WW => impl_thValid t _ _ _ code pc p.v (raw.below p.hb) (rbw.below p.hb) ((hrkw.out).below p.hb)
      have hkx : k ≤ ths.length := by omega
      clear t0 t1 t2 y1 y2
      cases hi : thOk pc t code
      · rw [hi] at hU
        have HU := Lib.hid hU
        have HN : Hid ((ths.zip px).all (thQ pc) = false) := Lib.hid (allN_false HZ.out (by simp [thQ, hi]))
        clear hU hi
        go_wp2_with fail
        rw [← HWW.out, HG.out]
        refine wp_region_past (by kernel_rfl) (by kernel_rfl) ?_
        repeat (go_big_quiet_step (first | (go_at_call 61; exact Calls.past_of (HU.out _))))
        refine wpQuiet_nil ?_
        intro _ hw'
        obtain ⟨p, rfl⟩ := hw'
        go_wp2_with fail
        go_ret
        exact ⟨ret_bool (HF.out.trans HN.out).symm, HB.out.trans (p.hb.mono HB.out.size)⟩
      · rw [hi] at hU
        have HU := Lib.hid hU
        have HN : Hid (((ths.zip px).take (k + 1)).all (thQ pc) = true) := Lib.hid (allN_snoc HA.out HZ.out (by simp [thQ, hi]))
        clear hU hi
        go_wp2_with fail
        rw [← HWW.out, HG.out]
        refine wp_region_past (by kernel_rfl) (by kernel_rfl) ?_
        repeat (go_big_quiet_step (first | (go_at_call 61; exact Calls.past_of (HU.out _))))
        refine wpQuiet_nil ?_
        intro _ hw'
        obtain ⟨p, rfl⟩ := hw'
        have KP := kpw.below p.hb kpw.lt
        have KM := kmw.below p.hb kmw.lt
        have HBp := Lib.hid (HB.out.trans (p.hb.mono HB.out.size))
        go_wp2_with fail
        exact ⟨⟨k + 1, by omega, by go_num, HN, HBp.out, KP, KM⟩, by simp [intOf]; omega⟩
    · obtain rfl : k = ths.length := by omega
      have HN := HA.out
      rw [List.take_of_length_le (by rw [List.length_zip]; omega)] at HN
      have HN := Lib.hid HN
      clear hcT hcell hr hin hinT
      go_wp2_with fail
      go_ret
      exact ⟨ret_bool (HF.out.trans HN.out).symm, hB⟩
end Go.Proofs.Ytiflooopfpcelaa
