/- Contracts of MachineText, of both sides. Condition: the machine can be read; its integers are 64-bit ones. -/
import Derived.Test.YtiflooopfpcelacDoorT6
import Derived.Test.YtiflooopfpcelacDoorM4
namespace Go.Proofs.YtiflooopfpcelacDoor
set_option maxRecDepth 20000
set_option linter.unusedSimpArgs false
set_option linter.unusedVariables false
open Go.ChangeShapes Go.WideShapes Go.ChangeAt Go.RowKit
def thNums (v : List Int) : List UInt8 := v.flatMap fun x => 32 :: Lib.itoa x
def thT (t : Th) : List UInt8 := 116 :: Lib.itoa t.pc ++ thNums t.v ++ 32 :: bufTextF t.f
def thsT (ths : List Th) : List UInt8 := ths.flatMap fun t => thT t ++ [32, 124, 32]
def shownT (t : Th) : Bool := bufOk t.f && decide (t.v.length ≤ 4)
def shownF (M : Ma) : Bool := memOk M.mem && decide (M.ths.length ≤ 3) && M.ths.all shownT
def machTextF (M : Ma) : List UInt8 := if shownF M then thsT M.ths ++ memTextF M.mem else []
/-- the integers that the text of a machine shows are 64-bit ones -/
def ShR (M : Ma) : Prop := ∀ t ∈ M.ths, (-9223372036854775808 ≤ t.pc ∧ t.pc ≤ 9223372036854775807) ∧ ∀ x ∈ t.v, -9223372036854775808 ≤ x ∧ x ≤ 9223372036854775807
theorem thNums_take {v : List Int} {k : Nat} {x : Int} (h : v[k]? = some x) : thNums (v.take (k + 1)) = thNums (v.take k) ++ 32 :: Lib.itoa x := by
  rw [List.take_add_one, h]
  simp [thNums]
theorem thsT_take {ths : List Th} {k : Nat} {t : Th} (h : ths[k]? = some t) : thsT (ths.take (k + 1)) = thsT (ths.take k) ++ (thT t ++ [32, 124, 32]) := by
  rw [List.take_add_one, h]
  simp [thsT]
theorem thNums_len {v : List Int} (h : ∀ x ∈ v, -9223372036854775808 ≤ x ∧ x ≤ 9223372036854775807) : ∀ k : Nat, (thNums (v.take k)).length ≤ 21 * k
  | 0 => by simp [thNums]
  | k + 1 => by
    have ih := thNums_len h k
    cases hx : v[k]? with
    | none =>
      have hk := List.getElem?_eq_none_iff.1 hx
      rw [List.take_of_length_le (by omega)] at ih ⊢
      omega
    | some x =>
      rw [thNums_take hx, List.length_append, List.length_cons]
      have := digs_len (h x (List.mem_of_getElem? hx))
      omega
theorem bufTextF_len (f : List P2) : (bufTextF f).length ≤ 130 := by
  unfold bufTextF
  split
  · rename_i hb
    split
    · simp
    · have h1 := bufT_len (slot_rng hb) f.length
      rw [List.take_length] at h1
      have := bufOk_len hb
      omega
  · simp
theorem thT_len {t : Th} (hp : -9223372036854775808 ≤ t.pc ∧ t.pc ≤ 9223372036854775807) (hv : ∀ x ∈ t.v, -9223372036854775808 ≤ x ∧ x ≤ 9223372036854775807) (hl : t.v.length ≤ 4) : (thT t).length ≤ 240 := by
  have h1 := digs_len hp
  have h2 := thNums_len hv t.v.length
  rw [List.take_length] at h2
  have h3 := bufTextF_len t.f
  simp only [thT, List.length_append, List.length_cons]
  omega
theorem thsT_len {ths : List Th} (hR : ∀ t ∈ ths, (-9223372036854775808 ≤ t.pc ∧ t.pc ≤ 9223372036854775807) ∧ ∀ x ∈ t.v, -9223372036854775808 ≤ x ∧ x ≤ 9223372036854775807) (hs : ths.all shownT = true) : ∀ k : Nat, (thsT (ths.take k)).length ≤ 250 * k
  | 0 => by simp [thsT]
  | k + 1 => by
    have ih := thsT_len hR hs k
    cases hx : ths[k]? with
    | none =>
      have hk := List.getElem?_eq_none_iff.1 hx
      rw [List.take_of_length_le (by omega)] at ih ⊢
      omega
    | some t =>
      have hm := List.mem_of_getElem? hx
      rw [List.all_eq_true] at hs
      have h1 := hs t hm
      simp only [shownT, Bool.and_eq_true, decide_eq_true_eq] at h1
      have h2 := thT_len (hR t hm).1 (hR t hm).2 h1.2
      rw [thsT_take hx]
      simp only [List.length_append, List.length_cons, List.length_nil]
      omega
theorem memTextF_len (xs : List Int) : (memTextF xs).length ≤ 400 := by
  unfold memTextF
  split
  · rename_i h
    obtain ⟨h1, h2, h3⟩ := memOk_parts h
    have := line_len xs.length xs rfl fun x hx => by have := h3 x hx; omega
    omega
  · simp
theorem allT_false {α : Type} {p : α → Bool} {xs : List α} {k : Nat} {x : α} (hx : xs[k]? = some x) (hp : p x = false) : xs.all p = false := by
  rw [List.all_eq_false]
  exact ⟨x, List.mem_of_getElem? hx, by simp [hp]⟩
theorem allT_snoc {α : Type} {p : α → Bool} {xs : List α} {k : Nat} {x : α} (h : (xs.take k).all p = true) (hx : xs[k]? = some x) (hp : p x = true) : (xs.take (k + 1)).all p = true := by
  rw [List.take_add_one, List.all_append, h, hx]
  simp [hp]
set_option maxHeartbeats 1600000 in
theorem l04Shown (mv tv : Value) (M : Ma) (w : World) (h : RdMa w mv tv M) :
    Calls Tryd.prog 58 #[.agg #[mv, tv]] w fun e w' => e = .returned (.bool (shownF M)) ∧ Below w.heap.size w w' := by
  obtain ⟨A0, c0, B0, d0, rfl, rfl, -, hBd, hcc, hdc⟩ := h.slices
  have hmem := h.mem
  obtain ⟨vsT, hvl, ⟨A', c', hAe, -, -, -, hrT⟩, hinT⟩ := h.ths
  injection hAe with hAe1 _ hAe3
  subst hAe1 hAe3
  have hB := (Below.refl w.heap.size w).alloc (Nat.le_refl _) (.cells #[.slice A0 M.mem.length c0, .slice B0 M.ths.length d0] 52)
  have K := Bk.new w #[.slice A0 M.mem.length c0, .slice B0 M.ths.length d0] 52
  have hC := spec_MemOk _ M.mem _ (hmem.below hB)
  have HB := Lib.hid hB
  clear hB hmem
  cases hme : memOk M.mem
  · rw [hme] at hC
    have HC := Lib.hid hC
    have HN : Hid (shownF M = false) := Lib.hid (by simp [shownF, hme])
    clear hC hme hrT hinT
    go_enter Tryd.func58, Tryd.ntmps58
    go_wp2_with fail
    refine HC.out.mono ?_
    rintro e w1 ⟨rfl, hb1⟩
    go_wp2_with fail
    go_ret
    exact ⟨ret_bool HN.out.symm, HB.out.trans (hb1.mono HB.out.size)⟩
  rw [hme] at hC
  have HC := Lib.hid hC
  clear hC
  by_cases hl : ¬ M.ths.length ≤ 3
  · have HN : Hid (shownF M = false) := Lib.hid (by simp [shownF, hl])
    clear hme hrT hinT
    go_enter Tryd.func58, Tryd.ntmps58
    go_wp2_with fail
    refine HC.out.mono ?_
    rintro e w1 ⟨rfl, hb1⟩
    obtain ⟨y1, -⟩ := (K.below hb1 K.lt).at_ 1 (x := .slice B0 M.ths.length d0) rfl
    go_wp2_with fail
    go_ret
    exact ⟨ret_bool HN.out.symm, HB.out.trans (hb1.mono HB.out.size)⟩
  have hl := Classical.not_not.1 hl
  have HF : Hid (shownF M = M.ths.all shownT) := Lib.hid (by simp [shownF, hme, hl])
  clear hme
  go_enter Tryd.func58, Tryd.ntmps58
  go_wp2_with fail
  refine HC.out.mono ?_
  rintro e w1 ⟨rfl, hb1⟩
  have hB1 := HB.out.trans (hb1.mono HB.out.size)
  obtain ⟨y1, -⟩ := (K.below hb1 K.lt).at_ 1 (x := .slice B0 M.ths.length d0) rfl
  clear hb1 HB HC K
  go_wp2_with fail
  go_loop [3] (fun i => ∃ k : Nat, k ≤ M.ths.length ∧ i = .int .i64 k ∧ Hid ((M.ths.take k).all shownT = true)) (fun i => M.ths.length - (intOf i).toNat)
  case atStart => exact ⟨0, Nat.zero_le _, rfl, Lib.hid (by simp)⟩
  case round =>
    obtain ⟨k, hk, rfl, HA⟩ := hrel
    by_cases hlt : k < M.ths.length
    · obtain ⟨bT, oT, rfl, hbT, hcT⟩ := hrT (by omega)
      obtain ⟨t, a1, a2, HT, HPv, hx0, hx1, hx2⟩ := th_at hvl hcT hlt hB1 hbT
      obtain ⟨ra, rb⟩ := hinT k t (a1, a2) HT.out HPv.out
      have rb1 := rb.below hB1
      obtain ⟨Av, cv, rfl, -, -, -, -⟩ := id ra
      obtain ⟨Af, cf, rfl, -, -, -, -⟩ := id rb
      have hU := spec_BufOk _ t.f _ rb1
      clear hrT hinT hcT HPv ra rb
      cases hb : bufOk t.f
      · rw [hb] at hU
        have HU := Lib.hid hU
        have HN : Hid (M.ths.all shownT = false) := Lib.hid (allT_false HT.out (by simp [shownT, hb]))
        clear hU hb
        go_wp2_with fail
        refine HU.out.mono ?_
        rintro e w2 ⟨rfl, rfl⟩
        go_wp2_with fail
        go_ret
        exact ⟨ret_bool (HF.out.trans HN.out).symm, hB1⟩
      · rw [hb] at hU
        have HU := Lib.hid hU
        by_cases hv : t.v.length ≤ 4
        · have HN := Lib.hid (allT_snoc (p := shownT) HA.out HT.out (by simp [shownT, hb, hv]))
          clear hU hb
          go_wp2_with fail
          refine HU.out.mono ?_
          rintro e w2 ⟨rfl, rfl⟩
          go_wp2_with fail
          exact ⟨⟨k + 1, by omega, by go_num, HN⟩, by simp [intOf]; omega⟩
        · have HN : Hid (M.ths.all shownT = false) := Lib.hid (allT_false HT.out (by simp [shownT, hv]))
          clear hU hb
          go_wp2_with fail
          refine HU.out.mono ?_
          rintro e w2 ⟨rfl, rfl⟩
          go_wp2_with fail
          go_ret
          exact ⟨ret_bool (HF.out.trans HN.out).symm, hB1⟩
    · obtain rfl : k = M.ths.length := by omega
      have HN := HA.out
      rw [List.take_length] at HN
      have HN := Lib.hid HN
      clear hrT hinT
      go_wp2_with fail
      go_ret
      exact ⟨ret_bool (HF.out.trans HN.out).symm, hB1⟩
set_option maxHeartbeats 6400000 in
theorem spec_MachineText (mv tv : Value) (M : Ma) (w : World) (h : RdMa w mv tv M) (hR : ShR M) :
    Calls Tryd.prog 25 #[.agg #[mv, tv]] w fun e w' => e = .returned (str (machTextF M)) ∧ Below w.heap.size w w' := by
  obtain ⟨A0, c0, B0, d0, rfl, rfl, -, hBd, hcc, hdc⟩ := h.slices
  have hB := (Below.refl w.heap.size w).alloc (Nat.le_refl _) (.cells #[.slice A0 M.mem.length c0, .slice B0 M.ths.length d0] 52)
  have K := Bk.new w #[.slice A0 M.mem.length c0, .slice B0 M.ths.length d0] 52
  have hC := l04Shown _ _ M _ (h.below hB)
  have HB := Lib.hid hB
  clear hB
  cases hs : shownF M
  · rw [hs] at hC
    have HC := Lib.hid hC
    have HN : Hid (machTextF M = []) := Lib.hid (by simp [machTextF, hs])
    clear hC hs
    go_enter Tryd.func25, Tryd.ntmps25
    go_wp2_with fail
    refine HC.out.mono ?_
    rintro e w1 ⟨rfl, hb1⟩
    go_wp2_with fail
    go_ret
    exact ⟨ret_str HN.out.symm, HB.out.trans (hb1.mono HB.out.size)⟩
  rw [hs] at hC
  have HC := Lib.hid hC
  have HF : Hid (machTextF M = thsT M.ths ++ memTextF M.mem) := Lib.hid (by simp [machTextF, hs])
  simp only [shownF, Bool.and_eq_true, decide_eq_true_eq] at hs
  obtain ⟨⟨hs1, hs2⟩, hs3⟩ := hs
  have HS3 := Lib.hid hs3
  have HR := Lib.hid hR
  have hmem := h.mem
  obtain ⟨vsT, hvl, ⟨A', c', hAe, -, -, -, hrT⟩, hinT⟩ := h.ths
  injection hAe with hAe1 _ hAe3
  subst hAe1 hAe3
  clear hC hs3 hR hs1
  go_enter Tryd.func25, Tryd.ntmps25
  go_wp2_with fail
  refine HC.out.mono ?_
  rintro e w1 ⟨rfl, hb1⟩
  have hB1 := HB.out.trans (hb1.mono HB.out.size)
  have K1 := K.below hb1 K.lt
  clear hb1 HB HC K
  go_wp2_with fail
  go_loopw [3, 4] (fun s i wr => ∃ (k : Nat) (L : List UInt8), k ≤ M.ths.length ∧ i = .int .i64 k ∧ s = str L ∧ Hid (L = thsT (M.ths.take k)) ∧ Below w.heap.size w wr ∧ Bk wr w.heap.size #[.slice A0 M.mem.length c0, .slice B0 M.ths.length d0] 52) (fun _ i _ => M.ths.length - (intOf i).toNat)
  case atStart => exact ⟨0, [], Nat.zero_le _, rfl, rfl, Lib.hid (by simp [thsT]), hB1, K1⟩
  case round =>
    obtain ⟨k, L, hk, rfl, rfl, HL, hB, K⟩ := hrel
    clear hB1 K1
    have hLl : L.length ≤ 750 := by
      have := thsT_len HR.out HS3.out k
      rw [HL.out]
      omega
    obtain ⟨y0, -⟩ := K.at_ 0 (x := .slice A0 M.mem.length c0) rfl
    obtain ⟨y1, -⟩ := K.at_ 1 (x := .slice B0 M.ths.length d0) rfl
    by_cases hlt : k < M.ths.length
    · obtain ⟨bT, oT, rfl, hbT, hcT⟩ := hrT (by omega)
      obtain ⟨t, a1, a2, HT, HPv, hx0, hx1, hx2⟩ := th_at hvl hcT hlt hB hbT
      obtain ⟨ra, rb⟩ := hinT k t (a1, a2) HT.out HPv.out
      have hm := List.mem_of_getElem? HT.out
      have hpc := (HR.out t hm).1
      have HV := Lib.hid (HR.out t hm).2
      have hv4 : t.v.length ≤ 4 := by
        have h1 := HS3.out
        rw [List.all_eq_true] at h1
        have h2 := h1 t hm
        simp only [shownT, Bool.and_eq_true, decide_eq_true_eq] at h2
        exact h2.2
      have RA := Lib.hid (ra.below hB)
      have RB := Lib.hid (rb.below hB)
      obtain ⟨Av, cv, rfl, -, -, -, -⟩ := id ra
      obtain ⟨Af, cf, rfl, -, -, -, -⟩ := id rb
      have hbr : bT < wr.heap.size := Nat.lt_of_lt_of_le hbT hB.size
      have hN := fun W : World => l01Num t.pc W hpc
      have htl := digs_len hpc
      obtain ⟨ta, hta⟩ : ∃ ta, Lib.itoa t.pc = ta := ⟨_, rfl⟩
      rw [hta] at hN htl
      have HNn := Lib.hid hN
      have HTA := Lib.hid hta
      have q1 : ¬ (9223372036854775807 < L.length + 1) := by omega
      have q2 : ¬ (9223372036854775807 < L.length + 1 + ta.length) := by omega
      have HB := Lib.hid hB
      clear hrT hinT hcT HPv ra rb hm hpc hN hta hB
      go_wp2_with fail
      refine (HNn.out _).mono ?_
      rintro e w2 ⟨rfl, hb2⟩
      have hB2 := HB.out.trans (hb2.mono HB.out.size)
      have K2 := K.below hb2 K.lt
      have z1 := (hb2.cell (p := ⟨bT, oT + k * 3 + 1, none⟩) hbr).trans hx1
      have z2 := (hb2.cell (p := ⟨bT, oT + k * 3 + 2, none⟩) hbr).trans hx2
      have ra2 := RA.out.below hb2
      have rb2 := RB.out.below hb2
      have hbr2 := Nat.lt_of_lt_of_le hbr hb2.size
      clear y0 y1 hx0 hx1 hx2 K HB hb2 q1 q2
      go_wp2_with fail
      obtain ⟨S0, hS0⟩ : ∃ S0, L ++ 116 :: ta = S0 := ⟨_, rfl⟩
      have hS0l : S0.length ≤ 780 := by rw [← hS0]; simp; omega
      have HS0 := Lib.hid hS0
      go_loopw [3, 5] (fun s i wz => ∃ (j : Nat) (S : List UInt8), j ≤ t.v.length ∧ i = .int .i64 j ∧ s = str S ∧ Hid (S = S0 ++ thNums (t.v.take j)) ∧ Below w2.heap.size w2 wz) (fun _ i _ => t.v.length - (intOf i).toNat)
      case atStart => exact ⟨0, S0, Nat.zero_le _, rfl, by rw [← HS0.out]; simp [str, bytes_app], Lib.hid (by simp [thNums]), Below.refl _ _⟩
      case round =>
        obtain ⟨j, S, hj, rfl, rfl, HS, hBz⟩ := hrel
        have hSl : S.length ≤ 900 := by
          have := thNums_len HV.out j
          rw [HS.out, List.length_append]
          omega
        have K3 := K2.below hBz K2.lt
        obtain ⟨y1, -⟩ := K3.at_ 1 (x := .slice (some ⟨bT, oT, none⟩) M.ths.length d0) rfl
        have x1 := (hBz.cell (p := ⟨bT, oT + k * 3 + 1, none⟩) hbr2).trans z1
        have x2 := (hBz.cell (p := ⟨bT, oT + k * 3 + 2, none⟩) hbr2).trans z2
        by_cases hjl : j < t.v.length
        · have ra3 := ra2.below hBz
          obtain ⟨Av', cv', hve, -, -, -, hrv'⟩ := id ra3
          injection hve with hve1 _ hve3
          subst hve1 hve3
          obtain ⟨b2, o2, rfl, hb2, hcell2⟩ := hrv' (by omega)
          obtain ⟨x, hxm, hxc⟩ := int_at hcell2 hjl
          have hxr := HV.out x (List.mem_of_getElem? hxm.out)
          have hN := fun W : World => l01Num x W hxr
          have htx := digs_len hxr
          have HTk := Lib.hid (thNums_take hxm.out)
          obtain ⟨tx, htx'⟩ : ∃ tx, Lib.itoa x = tx := ⟨_, rfl⟩
          rw [htx'] at hN htx HTk
          have HN := Lib.hid hN
          have q1 : ¬ (9223372036854775807 < S.length + 1) := by omega
          have q2 : ¬ (9223372036854775807 < S.length + 1 + tx.length) := by omega
          clear hN htx' hcell2 hrv' ra3 hxr
          go_wp2_with fail
          refine (HN.out _).mono ?_
          rintro e w4 ⟨rfl, hb4⟩
          have hBz4 := hBz.trans (hb4.mono hBz.size)
          clear hb4
          go_wp2_with fail
          exact ⟨⟨j + 1, S ++ 32 :: tx, by omega, by go_num, by simp [str, bytes_app], Lib.hid (by rw [HTk.out, HS.out]; simp), hBz4⟩, by simp [intOf]; omega⟩
        · obtain rfl : j = t.v.length := by omega
          have rb3 := rb2.below hBz
          have hU := spec_BufText _ t.f _ rb3
          have hul := bufTextF_len t.f
          have hE := HS.out
          rw [List.take_length] at hE
          have HT2 : Hid (thsT (M.ths.take (k + 1)) = L ++ (116 :: ta ++ thNums t.v ++ 32 :: bufTextF t.f ++ [32, 124, 32])) := Lib.hid (by
            rw [thsT_take HT.out, ← HL.out]
            unfold thT
            rw [HTA.out])
          have HSE : Hid (S = L ++ 116 :: ta ++ thNums t.v) := Lib.hid (by rw [hE, ← HS0.out])
          obtain ⟨tu, htu⟩ : ∃ tu, bufTextF t.f = tu := ⟨_, rfl⟩
          rw [htu] at hU hul HT2
          have HU := Lib.hid hU
          have q1 : ¬ (9223372036854775807 < S.length + 1) := by omega
          have q2 : ¬ (9223372036854775807 < S.length + 1 + tu.length) := by omega
          have q3 : ¬ (9223372036854775807 < S.length + 1 + tu.length + 3) := by omega
          clear hU htu rb3 hE
          go_wp2_with fail
          refine HU.out.mono ?_
          rintro e w4 ⟨rfl, hb4⟩
          have hB4 := hB2.trans ((hBz.trans (hb4.mono hBz.size)).mono hB2.size)
          have K4 := K3.below hb4 K3.lt
          clear hb4
          go_wp2_with fail
          exact ⟨⟨k + 1, S ++ 32 :: tu ++ [32, 124, 32], by omega, by go_num, by simp [str, bytes_app], Lib.hid (by rw [HT2.out, HSE.out]; simp), hB4, K4⟩, by simp [intOf]; omega⟩
    · obtain rfl : k = M.ths.length := by omega
      have hU := spec_MemText _ M.mem _ (hmem.below hB)
      have hul := memTextF_len M.mem
      have HE : Hid (machTextF M = L ++ memTextF M.mem) := Lib.hid (by rw [HF.out, HL.out, List.take_length])
      obtain ⟨tu, htu⟩ : ∃ tu, memTextF M.mem = tu := ⟨_, rfl⟩
      rw [htu] at hU hul HE
      have HU := Lib.hid hU
      have q1 : ¬ (9223372036854775807 < L.length + tu.length) := by omega
      clear hU htu hrT hinT
      go_wp2_with fail
      refine HU.out.mono ?_
      rintro e w4 ⟨rfl, hb4⟩
      go_wp2_with fail
      go_ret
      refine ⟨?_, hB.trans (hb4.mono hB.size)⟩
      rw [HE.out]
      simp [str, bytes_app]
end Go.Proofs.YtiflooopfpcelacDoor
