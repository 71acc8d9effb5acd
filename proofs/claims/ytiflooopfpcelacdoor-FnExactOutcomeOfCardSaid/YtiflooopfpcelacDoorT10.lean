/- Contracts of OutcomeOf, of both sides. Condition: the machine can be read; its integers are 64-bit ones; the library's table is laid. -/
import Derived.Test.YtiflooopfpcelacDoorT8
namespace Go.Proofs.YtiflooopfpcelacDoor
set_option maxRecDepth 20000
set_option linter.unusedSimpArgs false
set_option linter.unusedVariables false
open Go.ChangeShapes Go.WideShapes Go.ChangeAt Go.RowKit
def outT (ths : List Th) : List UInt8 := ths.flatMap fun t => line t.v ++ [32, 124, 32]
def outcomeF (M : Ma) : List UInt8 := if shownF M then outT M.ths ++ memTextF M.mem else []
theorem outT_take {ths : List Th} {k : Nat} {t : Th} (h : ths[k]? = some t) : outT (ths.take (k + 1)) = outT (ths.take k) ++ (line t.v ++ [32, 124, 32]) := by
  rw [List.take_add_one, h]
  simp [outT]
theorem line_le {v : List Int} (h : ∀ x ∈ v, -9223372036854775808 ≤ x ∧ x ≤ 9223372036854775807) (hl : v.length ≤ 4) : (line v).length ≤ 200 := by
  have := line_len _ v rfl h
  omega
theorem outT_len {ths : List Th} (hR : ∀ t ∈ ths, (-9223372036854775808 ≤ t.pc ∧ t.pc ≤ 9223372036854775807) ∧ ∀ x ∈ t.v, -9223372036854775808 ≤ x ∧ x ≤ 9223372036854775807) (hs : ths.all shownT = true) : ∀ k : Nat, (outT (ths.take k)).length ≤ 250 * k
  | 0 => by simp [outT]
  | k + 1 => by
    have ih := outT_len hR hs k
    cases hx : ths[k]? with
    | none =>
      have hk := List.getElem?_eq_none_iff.1 hx
      rw [List.take_of_length_le (by omega)] at ih ⊢
      omega
    | some t =>
      have hm := List.mem_of_getElem? hx
      rw [List.all_eq_true] at hs
      have h1 := hs t hm
      simp only [shownT, Bool.and_eq_true, decide_eq_true_eq] at h1
      have h2 := line_le (hR t hm).2 h1.2
      rw [outT_take hx]
      simp only [List.length_append, List.length_cons, List.length_nil]
      omega
theorem itoa_ne (x : Int) : Lib.itoa x ≠ [] := by
  unfold Lib.itoa
  split
  · simp
  · rw [Lib.decDigits]
    split <;> simp
theorem memTextF_ne {xs : List Int} (h : memOk xs = true) : memTextF xs ≠ [] := by
  obtain ⟨h1, -, -⟩ := memOk_parts h
  rw [memTextF, if_pos h]
  cases xs with
  | nil => simp at h1
  | cons x xs =>
    cases xs with
    | nil => simpa [line, Lib.join] using itoa_ne x
    | cons y ys => simp [line, Lib.join]
theorem machTextF_ne (M : Ma) : (machTextF M == []) = !shownF M := by
  unfold machTextF
  cases h : shownF M
  · simp
  · simp only [shownF, Bool.and_eq_true] at h
    have := memTextF_ne h.1.1
    simp [this]
set_option maxHeartbeats 6400000 in
theorem spec_OutcomeOf (mv tv : Value) (M : Ma) (w : World) (h : RdMa w mv tv M) (hR : ShR M) :
    Calls Tryd.prog 29 #[.agg #[mv, tv]] w fun e w' => e = .returned (str (outcomeF M)) ∧ Below w.heap.size w w' := by
  obtain ⟨A0, c0, B0, d0, rfl, rfl, -, hBd, hcc, hdc⟩ := h.slices
  have hB := (Below.refl w.heap.size w).alloc (Nat.le_refl _) (.cells #[.slice A0 M.mem.length c0, .slice B0 M.ths.length d0] 52)
  have K := Bk.new w #[.slice A0 M.mem.length c0, .slice B0 M.ths.length d0] 52
  have hC := l04Shown _ _ M _ (h.below hB)
  have HB := Lib.hid hB
  clear hB
  cases hs : shownF M
  · rw [hs] at hC
    have HC := Lib.hid hC
    have HN : Hid (outcomeF M = []) := Lib.hid (by simp [outcomeF, hs])
    clear hC hs
    go_enter Tryd.func29, Tryd.ntmps29
    go_wp2_with fail
    refine HC.out.mono ?_
    rintro e w1 ⟨rfl, hb1⟩
    go_wp2_with fail
    go_ret
    exact ⟨ret_str HN.out.symm, HB.out.trans (hb1.mono HB.out.size)⟩
  rw [hs] at hC
  have HC := Lib.hid hC
  have HF : Hid (outcomeF M = outT M.ths ++ memTextF M.mem) := Lib.hid (by simp [outcomeF, hs])
  simp only [shownF, Bool.and_eq_true, decide_eq_true_eq] at hs
  obtain ⟨⟨hs1, hs2⟩, hs3⟩ := hs
  have HS3 := Lib.hid hs3
  have HR := Lib.hid hR
  have hmem := h.mem
  obtain ⟨vsT, hvl, ⟨A', c', hAe, -, -, -, hrT⟩, hinT⟩ := h.ths
  injection hAe with hAe1 _ hAe3
  subst hAe1 hAe3
  clear hC hs3 hR hs1
  go_enter Tryd.func29, Tryd.ntmps29
  go_wp2_with fail
  refine HC.out.mono ?_
  rintro e w1 ⟨rfl, hb1⟩
  have hB1 := HB.out.trans (hb1.mono HB.out.size)
  have K1 := K.below hb1 K.lt
  clear hb1 HB HC K
  go_wp2_with fail
  go_loopw [3, 4] (fun s i wr => ∃ (k : Nat) (L : List UInt8), k ≤ M.ths.length ∧ i = .int .i64 k ∧ s = str L ∧ Hid (L = outT (M.ths.take k)) ∧ Below w.heap.size w wr ∧ Bk wr w.heap.size #[.slice A0 M.mem.length c0, .slice B0 M.ths.length d0] 52) (fun _ i _ => M.ths.length - (intOf i).toNat)
  case atStart => exact ⟨0, [], Nat.zero_le _, rfl, rfl, Lib.hid (by simp [outT]), hB1, K1⟩
  case round =>
    obtain ⟨k, L, hk, rfl, rfl, HL, hB, K⟩ := hrel
    clear hB1 K1
    have hLl : L.length ≤ 750 := by
      have := outT_len HR.out HS3.out k
      rw [HL.out]
      omega
    obtain ⟨y0, -⟩ := K.at_ 0 (x := .slice A0 M.mem.length c0) rfl
    obtain ⟨y1, -⟩ := K.at_ 1 (x := .slice B0 M.ths.length d0) rfl
    by_cases hlt : k < M.ths.length
    · obtain ⟨bT, oT, rfl, hbT, hcT⟩ := hrT (by omega)
      obtain ⟨t, a1, a2, HT, HPv, hx0, hx1, hx2⟩ := th_at hvl hcT hlt hB hbT
      obtain ⟨ra, rb⟩ := hinT k t (a1, a2) HT.out HPv.out
      have hm := List.mem_of_getElem? HT.out
      have hvv := (HR.out t hm).2
      have hv4 : t.v.length ≤ 4 := by
        have h1 := HS3.out
        rw [List.all_eq_true] at h1
        have h2 := h1 t hm
        simp only [shownT, Bool.and_eq_true, decide_eq_true_eq] at h2
        exact h2.2
      have hU := l01Line _ t.v _ (ra.below hB) (by omega) hvv
      have hul := line_le hvv hv4
      obtain ⟨Av, cv, rfl, -, -, -, -⟩ := id ra
      obtain ⟨Af, cf, rfl, -, -, -, -⟩ := id rb
      have HT2 : Hid (outT (M.ths.take (k + 1)) = L ++ (line t.v ++ [32, 124, 32])) := Lib.hid (by rw [outT_take HT.out, ← HL.out])
      obtain ⟨tu, htu⟩ : ∃ tu, line t.v = tu := ⟨_, rfl⟩
      rw [htu] at hU hul HT2
      have HU := Lib.hid hU
      have q1 : ¬ (9223372036854775807 < L.length + tu.length) := by omega
      have q2 : ¬ (9223372036854775807 < L.length + tu.length + 3) := by omega
      clear hrT hinT hcT HPv ra rb hm hU htu hvv
      go_wp2_with fail
      refine HU.out.mono ?_
      rintro e w2 ⟨rfl, hb2⟩
      have hB2 := hB.trans (hb2.mono hB.size)
      have K2 := K.below hb2 K.lt
      clear y0 y1 K hb2 hB
      go_wp2_with fail
      exact ⟨⟨k + 1, L ++ tu ++ [32, 124, 32], by omega, by go_num, by simp [str, bytes_app], Lib.hid (by rw [HT2.out]; simp), hB2, K2⟩, by simp [intOf]; omega⟩
    · obtain rfl : k = M.ths.length := by omega
      have hU := spec_MemText _ M.mem _ (hmem.below hB)
      have hul := memTextF_len M.mem
      have HE : Hid (outcomeF M = L ++ memTextF M.mem) := Lib.hid (by rw [HF.out, HL.out, List.take_length])
      obtain ⟨tu, htu⟩ : ∃ tu, memTextF M.mem = tu := ⟨_, rfl⟩
      rw [htu] at hU hul HE
      have HU := Lib.hid hU
      have q1 : ¬ (9223372036854775807 < L.length + tu.length) := by omega
      clear hU htu hrT hinT
      go_wp2_with fail
      refine HU.out.mono ?_
      rintro e w4 ⟨rfl, hb4⟩
      go_wp2_with fail
      go_ret
      refine ⟨?_, hB.trans (hb4.mono hB.size)⟩
      rw [HE.out]
      simp [str, bytes_app]
set_option maxHeartbeats 6400000 in
theorem impl_OutcomeOf (mv tv : Value) (M : Ma) (w : World) (h : RdMa w mv tv M) (hR : ShR M) (ht : Tab w) :
    Calls Tryd.prog 30 #[.agg #[mv, tv]] w fun e w' => e = .returned (str (outcomeF M)) ∧ Below w.heap.size w w' := by
  obtain ⟨A0, c0, B0, d0, rfl, rfl, -, hBd, hcc, hdc⟩ := h.slices
  have hB := (Below.refl w.heap.size w).alloc (Nat.le_refl _) (.cells #[.slice A0 M.mem.length c0, .slice B0 M.ths.length d0] 52)
  have K := Bk.new w #[.slice A0 M.mem.length c0, .slice B0 M.ths.length d0] 52
  have hC := impl_MachineText _ _ M _ (h.below hB) hR (ht.below hB (Nat.le_refl _))
  have hE0 := machTextF_ne M
  obtain ⟨mt, hmt⟩ : ∃ mt, machTextF M = mt := ⟨_, rfl⟩
  rw [hmt] at hC hE0
  have HC := Lib.hid hC
  have HB := Lib.hid hB
  clear hB hC hmt
  cases hs : shownF M
  · rw [hs] at hE0
    have hmt0 : mt = [] := by simpa using hE0
    subst hmt0
    have HN : Hid (outcomeF M = []) := Lib.hid (by simp [outcomeF, hs])
    clear hs hE0
    go_enter Tryd.func30, Tryd.ntmps30
    go_wp2_with fail
    refine HC.out.mono ?_
    rintro e w1 ⟨rfl, hb1⟩
    go_wp2_with fail
    go_ret
    exact ⟨ret_str HN.out.symm, HB.out.trans (hb1.mono HB.out.size)⟩
  rw [hs] at hE0
  have HF : Hid (outcomeF M = outT M.ths ++ memTextF M.mem) := Lib.hid (by simp [outcomeF, hs])
  simp only [shownF, Bool.and_eq_true, decide_eq_true_eq] at hs
  obtain ⟨⟨hs1, hs2⟩, hs3⟩ := hs
  have HS3 := Lib.hid hs3
  have HR := Lib.hid hR
  have HT0 := Lib.hid ht
  have hmem := h.mem
  obtain ⟨vsT, hvl, ⟨A', c', hAe, -, -, -, hrT⟩, hinT⟩ := h.ths
  injection hAe with hAe1 _ hAe3
  subst hAe1 hAe3
  have hmt : mt ≠ [] := by simpa using hE0
  have hE1 : (mt == ([] : List UInt8)) = false := by simp [hmt]
  have hE2 : (@BEq.beq (List UInt8) instBEqOfDecidableEq mt []) = false := by simp [hmt]
  clear hmt
  clear hs3 hR hs1 hE0 ht
  go_enter Tryd.func30, Tryd.ntmps30
  go_wp2_with fail
  refine HC.out.mono ?_
  rintro e w1 ⟨rfl, hb1⟩
  have hB1 := HB.out.trans (hb1.mono HB.out.size)
  have K1 := K.below hb1 K.lt
  obtain ⟨y1, -⟩ := K1.at_ 1 (x := .slice B0 M.ths.length d0) rfl
  clear hb1 HB HC K
  go_wp2_with fail
  clear y1
  go_loopw [3, 12] (fun s i wr => ∃ (k : Nat) (L : List UInt8), k ≤ M.ths.length ∧ i = .int .i64 k ∧ s = str L ∧ Hid (L = outT (M.ths.take k)) ∧ Below w.heap.size w wr ∧ Bk wr w.heap.size #[.slice A0 M.mem.length c0, .slice B0 M.ths.length d0] 52) (fun _ i _ => M.ths.length - (intOf i).toNat)
  case atStart => exact ⟨0, [], Nat.zero_le _, rfl, rfl, Lib.hid (by simp [outT]), hB1, K1⟩
  case round =>
    obtain ⟨k, L, hk, rfl, rfl, HL, hB, K⟩ := hrel
    clear hB1 K1
    have hLl : L.length ≤ 750 := by
      have := outT_len HR.out HS3.out k
      rw [HL.out]
      omega
    obtain ⟨y0, -⟩ := K.at_ 0 (x := .slice A0 M.mem.length c0) rfl
    by_cases hlt : k < M.ths.length
    · obtain ⟨bT, oT, rfl, hbT, hcT⟩ := hrT (by omega)
      obtain ⟨t, a1, a2, HT, HPv, hx0, hx1, hx2⟩ := th_at hvl hcT hlt hB hbT
      obtain ⟨ra, rb⟩ := hinT k t (a1, a2) HT.out HPv.out
      have hm := List.mem_of_getElem? HT.out
      have hvv := (HR.out t hm).2
      have hv4 : t.v.length ≤ 4 := by
        have h1 := HS3.out
        rw [List.all_eq_true] at h1
        have h2 := h1 t hm
        simp only [shownT, Bool.and_eq_true, decide_eq_true_eq] at h2
        exact h2.2
      have ra1 := ra.below hB
      obtain ⟨Av, cv, rfl, -, -, -, -⟩ := id ra
      obtain ⟨Af, cf, rfl, -, -, -, -⟩ := id rb
      have hA := (Below.refl wr.heap.size wr).alloc (Nat.le_refl _) (.cells #[.int .i64 t.pc, .slice Av t.v.length cv, .slice Af t.f.length cf] 91)
      have hBa := hB.alloc hB.size (.cells #[.int .i64 t.pc, .slice Av t.v.length cv, .slice Af t.f.length cf] 91)
      have kt := Bk.new wr #[.int .i64 t.pc, .slice Av t.v.length cv, .slice Af t.f.length cf] 91
      have Ka := K.alloc (.cells #[.int .i64 t.pc, .slice Av t.v.length cv, .slice Af t.f.length cf] 91)
      have hU := impl_numbersText _ t.v _ (ra1.below hA) (HT0.out.below hBa (Nat.le_refl _)) (by omega) hvv
      have hul := line_le hvv hv4
      have HT2 : Hid (outT (M.ths.take (k + 1)) = L ++ (line t.v ++ [32, 124, 32])) := Lib.hid (by rw [outT_take HT.out, ← HL.out])
      obtain ⟨tu, htu⟩ : ∃ tu, line t.v = tu := ⟨_, rfl⟩
      rw [htu] at hU hul HT2
      have HU := Lib.hid hU
      have HBa := Lib.hid hBa
      obtain ⟨t1, -⟩ := kt.at_ 1 (x := .slice Av t.v.length cv) rfl
      have q1 : ¬ (9223372036854775807 < tu.length + 3) := by omega
      have q2 : ¬ (9223372036854775807 < L.length + (tu.length + 3)) := by omega
      clear hrT hinT hcT HPv ra rb ra1 hm hU htu hvv hA hBa hB K y0
      go_wp2_with fail
      refine HU.out.mono ?_
      rintro e w2 ⟨rfl, hb2⟩
      have hB2 := HBa.out.trans (hb2.mono HBa.out.size)
      have K2 := Ka.below hb2 Ka.lt
      clear hb2 kt Ka
      go_wp2_with fail
      exact ⟨⟨k + 1, L ++ (tu ++ [32, 124, 32]), by omega, by go_num, by simp [str, bytes_app], Lib.hid HT2.out.symm, hB2, K2⟩, by simp [intOf]; omega⟩
    · obtain rfl : k = M.ths.length := by omega
      have hU := impl_MemText _ M.mem _ (hmem.below hB) (HT0.out.below hB (Nat.le_refl _))
      have hul := memTextF_len M.mem
      have HE : Hid (outcomeF M = L ++ memTextF M.mem) := Lib.hid (by rw [HF.out, HL.out, List.take_length])
      obtain ⟨tu, htu⟩ : ∃ tu, memTextF M.mem = tu := ⟨_, rfl⟩
      rw [htu] at hU hul HE
      have HU := Lib.hid hU
      have q1 : ¬ (9223372036854775807 < L.length + tu.length) := by omega
      clear hU htu hrT hinT
      go_wp2_with fail
      refine HU.out.mono ?_
      rintro e w4 ⟨rfl, hb4⟩
      go_wp2_with fail
      go_ret
      refine ⟨?_, hB.trans (hb4.mono hB.size)⟩
      rw [HE.out]
      simp [str, bytes_app]
end Go.Proofs.YtiflooopfpcelacDoor
