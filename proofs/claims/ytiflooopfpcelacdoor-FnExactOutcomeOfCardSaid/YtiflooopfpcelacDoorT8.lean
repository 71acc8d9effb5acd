/- Contract of impl.MachineText. Condition: the machine can be read; its integers are 64-bit ones; the library's table is laid. -/
import Derived.Test.YtiflooopfpcelacDoorT7
namespace Go.Proofs.YtiflooopfpcelacDoor
set_option maxRecDepth 20000
set_option linter.unusedSimpArgs false
set_option linter.unusedVariables false
open Go.ChangeShapes Go.WideShapes Go.ChangeAt Go.RowKit
set_option maxHeartbeats 3200000 in
theorem impl_thText (t : Th) (a f : Value) (w : World) (ha : Rd w a 1 t.v.length (ints t.v)) (hf : Rd w f 2 t.f.length (flc2 t.f)) (hp : -9223372036854775808 ≤ t.pc ∧ t.pc ≤ 9223372036854775807) (hv : ∀ x ∈ t.v, -9223372036854775808 ≤ x ∧ x ≤ 9223372036854775807) (hl : t.v.length ≤ 4) (ht : Tab w) :
    Calls Tryd.prog 63 #[.agg #[.int .i64 t.pc, a, f]] w fun e w' => e = .returned (str (thT t)) ∧ Below w.heap.size w w' := by
  obtain ⟨A, c, rfl, -, hnc, hc, hr⟩ := id ha
  obtain ⟨B, d, rfl, -, hnd, hd, -⟩ := id hf
  unfold maxLen at hc hd
  have hB := (Below.refl w.heap.size w).alloc (Nat.le_refl _) (.cells #[.int .i64 t.pc, .slice A t.v.length c, .slice B t.f.length d] 91)
  have K := Bk.new w #[.int .i64 t.pc, .slice A t.v.length c, .slice B t.f.length d] 91
  have HT := Lib.hid ht
  have HV := Lib.hid hv
  have hN := fun (W : World) (hW : Below w.heap.size w W) => itoa_call t.pc W hp (HT.out.below hW (Nat.le_refl _))
  have htl := digs_len hp
  obtain ⟨ta, hta⟩ : ∃ ta, Lib.itoa t.pc = ta := ⟨_, rfl⟩
  rw [hta] at hN htl
  have HN0 := Lib.hid hN
  have HTA := Lib.hid hta
  have HB := Lib.hid hB
  have q1 : ¬ (9223372036854775807 < 1 + ta.length) := by omega
  have q1' : ¬ (9223372036854775807 < ta.length + 1) := by omega
  clear hN hta hv ht hB
  go_enter Tryd.func63, Tryd.ntmps63
  go_wp2_with fail
  refine (HN0.out _ HB.out).mono ?_
  rintro e w1 ⟨rfl, hb1⟩
  have hB1 := HB.out.trans (hb1.mono HB.out.size)
  have K1 := K.below hb1 K.lt
  obtain ⟨y1, -⟩ := K1.at_ 1 (x := .slice A t.v.length c) rfl
  have RA := Lib.hid (ha.below hB1)
  have RF := Lib.hid (hf.below hB1)
  clear hb1 HB K q1 q1' hr ha hf
  go_wp2_with fail
  obtain ⟨S0, hS0⟩ : ∃ S0, 116 :: ta = S0 := ⟨_, rfl⟩
  have hS0l : S0.length ≤ 25 := by rw [← hS0]; simp; omega
  have HS0 := Lib.hid hS0
  go_loopw [3, 5, 13] (fun s x i wz => ∃ (j : Nat) (S : List UInt8), j ≤ t.v.length ∧ i = .int .i64 j ∧ s = str S ∧ Hid (S = S0 ++ thNums (t.v.take j)) ∧ Below w1.heap.size w1 wz) (fun _ _ i _ => t.v.length - (intOf i).toNat)
  case atStart => exact ⟨0, S0, Nat.zero_le _, rfl, by rw [← HS0.out]; simp [str, bytes_app], Lib.hid (by simp [thNums]), Below.refl _ _⟩
  case round =>
    obtain ⟨j, S, hj, rfl, rfl, HS, hBz⟩ := hrel
    have hSl : S.length ≤ 200 := by
      have := thNums_len HV.out j
      rw [HS.out, List.length_append]
      omega
    have K3 := K1.below hBz K1.lt
    by_cases hjl : j < t.v.length
    · have ra3 := RA.out.below hBz
      obtain ⟨Av', cv', hve, -, -, -, hrv'⟩ := id ra3
      injection hve with hve1 _ hve3
      subst hve1 hve3
      obtain ⟨b2, o2, rfl, hb2, hcell2⟩ := hrv' (by omega)
      obtain ⟨x, hxm, hxc⟩ := int_at hcell2 hjl
      have hxr := HV.out x (List.mem_of_getElem? hxm.out)
      have hN := fun (W : World) (hW : Below w.heap.size w W) => itoa_call x W hxr (HT.out.below hW (Nat.le_refl _))
      have htx := digs_len hxr
      have HTk := Lib.hid (thNums_take hxm.out)
      obtain ⟨tx, htx'⟩ : ∃ tx, Lib.itoa x = tx := ⟨_, rfl⟩
      rw [htx'] at hN htx HTk
      have HN := Lib.hid hN
      have hBw := hB1.trans (hBz.mono hB1.size)
      have q1 : ¬ (9223372036854775807 < 1 + tx.length) := by omega
      have q1' : ¬ (9223372036854775807 < tx.length + 1) := by omega
      have q2 : ¬ (9223372036854775807 < S.length + (1 + tx.length)) := by omega
      have q2' : ¬ (9223372036854775807 < S.length + (tx.length + 1)) := by omega
      clear hN htx' hcell2 hrv' ra3 hxr
      go_wp2_with fail
      refine (HN.out _ hBw).mono ?_
      rintro e w4 ⟨rfl, hb4⟩
      have hBz4 := hBz.trans (hb4.mono hBz.size)
      clear hb4
      go_wp2_with fail
      exact ⟨⟨j + 1, S ++ 32 :: tx, by omega, by go_num, by simp [str, bytes_app], Lib.hid (by rw [HTk.out, HS.out]; simp), hBz4⟩, by simp [intOf]; omega⟩
    · obtain rfl : j = t.v.length := by omega
      have hBw := hB1.trans (hBz.mono hB1.size)
      have hU := impl_BufText _ t.f _ (RF.out.below hBz) (HT.out.below hBw (Nat.le_refl _))
      have hul := bufTextF_len t.f
      have hE := HS.out
      rw [List.take_length] at hE
      have HT2 : Hid (thT t = S ++ 32 :: bufTextF t.f) := Lib.hid (by
        unfold thT
        rw [hE, ← HS0.out, HTA.out])
      obtain ⟨tu, htu⟩ : ∃ tu, bufTextF t.f = tu := ⟨_, rfl⟩
      rw [htu] at hU hul HT2
      have HU := Lib.hid hU
      obtain ⟨y2, -⟩ := K3.at_ 2 (x := .slice B t.f.length d) rfl
      have q1 : ¬ (9223372036854775807 < S.length + 1) := by omega
      have q2 : ¬ (9223372036854775807 < S.length + 1 + tu.length) := by omega
      clear hU htu hE
      go_wp2_with fail
      refine HU.out.mono ?_
      rintro e w4 ⟨rfl, hb4⟩
      go_wp2_with fail
      go_ret
      refine ⟨?_, hBw.trans (hb4.mono hBw.size)⟩
      rw [HT2.out]
      simp [str, bytes_app]
set_option maxHeartbeats 6400000 in
theorem impl_MachineText (mv tv : Value) (M : Ma) (w : World) (h : RdMa w mv tv M) (hR : ShR M) (ht : Tab w) :
    Calls Tryd.prog 27 #[.agg #[mv, tv]] w fun e w' => e = .returned (str (machTextF M)) ∧ Below w.heap.size w w' := by
  obtain ⟨A0, c0, B0, d0, rfl, rfl, -, hBd, hcc, hdc⟩ := h.slices
  have hmem := h.mem
  obtain ⟨vsT, hvl, ⟨A', c', hAe, -, -, -, hrT⟩, hinT⟩ := h.ths
  injection hAe with hAe1 _ hAe3
  subst hAe1 hAe3
  have hB := (Below.refl w.heap.size w).alloc (Nat.le_refl _) (.cells #[.slice A0 M.mem.length c0, .slice B0 M.ths.length d0] 52)
  have K := Bk.new w #[.slice A0 M.mem.length c0, .slice B0 M.ths.length d0] 52
  have hC := impl_MemOk _ M.mem _ (hmem.below hB)
  have HT0 := Lib.hid ht
  have HR := Lib.hid hR
  have HB := Lib.hid hB
  clear hB hR ht
  cases hme : memOk M.mem
  · rw [hme] at hC
    have HC := Lib.hid hC
    have HN : Hid (machTextF M = []) := Lib.hid (by simp [machTextF, shownF, hme])
    clear hC hme hrT hinT
    go_enter Tryd.func27, Tryd.ntmps27
    go_wp2_with fail
    refine HC.out.mono ?_
    rintro e w1 ⟨rfl, hb1⟩
    go_wp2_with fail
    go_ret
    exact ⟨ret_str HN.out.symm, HB.out.trans (hb1.mono HB.out.size)⟩
  rw [hme] at hC
  have HC := Lib.hid hC
  clear hC
  by_cases hl : ¬ M.ths.length ≤ 3
  · have HN : Hid (machTextF M = []) := Lib.hid (by simp [machTextF, shownF, hl])
    clear hme hrT hinT
    go_enter Tryd.func27, Tryd.ntmps27
    go_wp2_with fail
    refine HC.out.mono ?_
    rintro e w1 ⟨rfl, hb1⟩
    obtain ⟨y1, -⟩ := (K.below hb1 K.lt).at_ 1 (x := .slice B0 M.ths.length d0) rfl
    go_wp2_with fail
    go_ret
    exact ⟨ret_str HN.out.symm, HB.out.trans (hb1.mono HB.out.size)⟩
  have hl := Classical.not_not.1 hl
  have HF : Hid (machTextF M = if M.ths.all shownT then thsT M.ths ++ memTextF M.mem else []) := Lib.hid (by simp [machTextF, shownF, hme, hl])
  clear hme
  go_enter Tryd.func27, Tryd.ntmps27
  go_wp2_with fail
  refine HC.out.mono ?_
  rintro e w1 ⟨rfl, hb1⟩
  have hB1 := HB.out.trans (hb1.mono HB.out.size)
  have K1 := K.below hb1 K.lt
  obtain ⟨y1, -⟩ := K1.at_ 1 (x := .slice B0 M.ths.length d0) rfl
  clear hb1 HB HC K
  go_wp2_with fail
  clear y1
  go_loopw [3, 19] (fun s i wr => ∃ (k : Nat) (L : List UInt8), k ≤ M.ths.length ∧ i = .int .i64 k ∧ s = str L ∧ Hid (L = thsT (M.ths.take k) ∧ (M.ths.take k).all shownT = true) ∧ Below w.heap.size w wr ∧ Bk wr w.heap.size #[.slice A0 M.mem.length c0, .slice B0 M.ths.length d0] 52) (fun _ i _ => M.ths.length - (intOf i).toNat)
  case atStart => exact ⟨0, [], Nat.zero_le _, rfl, rfl, Lib.hid ⟨by simp [thsT], by simp⟩, hB1, K1⟩
  case round =>
    obtain ⟨k, L, hk, rfl, rfl, HL, hB, K⟩ := hrel
    clear hB1 K1
    have hLl : L.length ≤ 750 := by
      have h1 := thsT_len (ths := M.ths.take k) (fun t h => HR.out t (List.mem_of_mem_take h)) HL.out.2 k
      rw [List.take_take, Nat.min_self] at h1
      rw [HL.out.1]
      omega
    by_cases hlt : k < M.ths.length
    · obtain ⟨bT, oT, rfl, hbT, hcT⟩ := hrT (by omega)
      obtain ⟨t, a1, a2, HTk, HPv, hx0, hx1, hx2⟩ := th_at hvl hcT hlt hB hbT
      obtain ⟨ra, rb⟩ := hinT k t (a1, a2) HTk.out HPv.out
      have hm := List.mem_of_getElem? HTk.out
      have hpc := (HR.out t hm).1
      have hvv := (HR.out t hm).2
      have ra1 := ra.below hB
      have rb1 := rb.below hB
      obtain ⟨Av, cv, rfl, -, -, -, -⟩ := id ra
      obtain ⟨Af, cf, rfl, -, -, -, -⟩ := id rb
      have hA := (Below.refl wr.heap.size wr).alloc (Nat.le_refl _) (.cells #[.int .i64 t.pc, .slice Av t.v.length cv, .slice Af t.f.length cf] 91)
      have hBa := hB.alloc hB.size (.cells #[.int .i64 t.pc, .slice Av t.v.length cv, .slice Af t.f.length cf] 91)
      have kt := Bk.new wr #[.int .i64 t.pc, .slice Av t.v.length cv, .slice Af t.f.length cf] 91
      have Ka := K.alloc (.cells #[.int .i64 t.pc, .slice Av t.v.length cv, .slice Af t.f.length cf] 91)
      have hU := impl_BufOk _ t.f _ (rb1.below hA)
      have RA := Lib.hid (ra1.below hA)
      have RB := Lib.hid (rb1.below hA)
      have HBa := Lib.hid hBa
      clear hrT hinT hcT HPv ra rb ra1 rb1 hA hBa hB K
      cases hb : bufOk t.f
      · rw [hb] at hU
        have HU := Lib.hid hU
        have HN : Hid (machTextF M = []) := Lib.hid (by rw [HF.out, allT_false HTk.out (by simp [shownT, hb])]; rfl)
        clear hU hb
        go_wp2_with fail
        refine HU.out.mono ?_
        rintro e w2 ⟨rfl, hb2⟩
        go_wp2_with fail
        go_ret
        exact ⟨ret_str HN.out.symm, HBa.out.trans (hb2.mono HBa.out.size)⟩
      rw [hb] at hU
      have HU := Lib.hid hU
      by_cases hv4 : ¬ t.v.length ≤ 4
      · have HN : Hid (machTextF M = []) := Lib.hid (by rw [HF.out, allT_false HTk.out (by simp [shownT, hv4])]; rfl)
        clear hU hb
        go_wp2_with fail
        refine HU.out.mono ?_
        rintro e w2 ⟨rfl, hb2⟩
        obtain ⟨t1, -⟩ := (kt.below hb2 kt.lt).at_ 1 (x := .slice Av t.v.length cv) rfl
        go_wp2_with fail
        go_ret
        exact ⟨ret_str HN.out.symm, HBa.out.trans (hb2.mono HBa.out.size)⟩
      have hv4 := Classical.not_not.1 hv4
      have HAk := Lib.hid (allT_snoc (p := shownT) HL.out.2 HTk.out (by simp [shownT, hb, hv4]))
      have HT2 : Hid (thsT (M.ths.take (k + 1)) = L ++ (thT t ++ [32, 124, 32])) := Lib.hid (by rw [thsT_take HTk.out, HL.out.1])
      have hul := thT_len hpc hvv hv4
      have HPC := Lib.hid (And.intro hpc hvv)
      obtain ⟨tu, htu⟩ : ∃ tu, thT t = tu := ⟨_, rfl⟩
      have HTU := Lib.hid htu
      rw [htu] at HT2 hul
      clear hU hb hpc hvv htu
      go_wp2_with fail
      refine HU.out.mono ?_
      rintro e w2 ⟨rfl, hb2⟩
      have hB2 := HBa.out.trans (hb2.mono HBa.out.size)
      have kt2 := kt.below hb2 kt.lt
      have K2 := Ka.below hb2 Ka.lt
      obtain ⟨t0, -⟩ := kt2.at_ 0 (x := .int .i64 t.pc) rfl
      obtain ⟨t1, -⟩ := kt2.at_ 1 (x := .slice Av t.v.length cv) rfl
      obtain ⟨t2, -⟩ := kt2.at_ 2 (x := .slice Af t.f.length cf) rfl
      have hX := impl_thText t _ _ _ (RA.out.below hb2) (RB.out.below hb2) HPC.out.1 HPC.out.2 hv4 (HT0.out.below hB2 (Nat.le_refl _))
      rw [HTU.out] at hX
      have HX := Lib.hid hX
      have q1 : ¬ (9223372036854775807 < tu.length + 3) := by omega
      have q2 : ¬ (9223372036854775807 < L.length + (tu.length + 3)) := by omega
      clear hX hb2 kt Ka
      go_wp2_with fail
      refine HX.out.mono ?_
      rintro e w4 ⟨rfl, hb4⟩
      have hB4 := hB2.trans (hb4.mono hB2.size)
      have K4 := K2.below hb4 K2.lt
      clear hb4
      go_wp2_with fail
      exact ⟨⟨k + 1, L ++ (tu ++ [32, 124, 32]), by omega, by go_num, by simp [str, bytes_app], Lib.hid ⟨HT2.out.symm, HAk.out⟩, hB4, K4⟩, by simp [intOf]; omega⟩
    · obtain rfl : k = M.ths.length := by omega
      obtain ⟨y0, -⟩ := K.at_ 0 (x := .slice A0 M.mem.length c0) rfl
      have hU := impl_MemText _ M.mem _ (hmem.below hB) (HT0.out.below hB (Nat.le_refl _))
      have hul := memTextF_len M.mem
      have HE : Hid (machTextF M = L ++ memTextF M.mem) := Lib.hid (by
        have h1 := HL.out
        rw [List.take_length] at h1
        rw [HF.out, if_pos h1.2, h1.1])
      obtain ⟨tu, htu⟩ : ∃ tu, memTextF M.mem = tu := ⟨_, rfl⟩
      rw [htu] at hU hul HE
      have HU := Lib.hid hU
      have q1 : ¬ (9223372036854775807 < L.length + tu.length) := by omega
      clear hU htu hrT hinT
      go_wp2_with fail
      refine HU.out.mono ?_
      rintro e w4 ⟨rfl, hb4⟩
      go_wp2_with fail
      go_ret
      refine ⟨?_, hB.trans (hb4.mono hB.size)⟩
      rw [HE.out]
      simp [str, bytes_app]
end Go.Proofs.YtiflooopfpcelacDoor
