/- Contracts of impl.MachineOk and the methods of a thread that it and Moves ask. Condition: the program and the machine can be read. -/
import Derived.Test.YtiflooopfpcelaaV4
import Derived.Test.YtiflooopfpcelaaM4
import Derived.Test.YtiflooopfpcelaaB2
import Derived.Test.YtiflooopfpcelaaM2
namespace Go.Proofs.Ytiflooopfpcelaa
set_option maxRecDepth 20000
set_option linter.unusedSimpArgs false
set_option linter.unusedVariables false
open Go.ChangeShapes Go.WideShapes Go.ChangeAt Go.RowKit
set_option maxHeartbeats 3200000 in
theorem impl_thValid (t : Th) (a f v : Value) (code : List Ins) (pc : Int) (w : World) (ha : Rd w a 1 t.v.length (ints t.v)) (hf : Rd w f 2 t.f.length (flc2 t.f)) (hv : Rd w v 4 code.length (flc code)) :
    Calls Try.prog 61 #[.agg #[.int .i64 t.pc, a, f], v, .int .i64 pc] w fun e w' => e = .returned (.bool (thOk pc t code)) ∧ Below w.heap.size w w' := by
  obtain ⟨A, c, rfl, -, hnc, hc, hr⟩ := id ha
  obtain ⟨B, d, rfl, -, hnd, hd, hr2⟩ := id hf
  obtain ⟨C, cc, rfl, -, hncc, hccc, -⟩ := id hv
  unfold maxLen at hc hd hccc
  have hB := (Below.refl w.heap.size w).alloc (Nat.le_refl _) (.cells #[.int .i64 t.pc, .slice A t.v.length c, .slice B t.f.length d] 71)
  have K := Bk.new w #[.int .i64 t.pc, .slice A t.v.length c, .slice B t.f.length d] 71
  have HB := Lib.hid hB
  have haw := ha.below hB
  have hfw := hf.below hB
  clear hB hr hr2 ha hf
  by_cases hi : ¬ (0 ≤ t.pc ∧ t.pc ≤ code.length)
  · have HN : Hid (thOk pc t code = false) := Lib.hid (by
      have : inB t.pc 0 code.length = false := by
        cases h : inB t.pc 0 code.length
        · rfl
        · exact absurd (inB_true h) hi
      simp [thOk, this])
    have hcase : t.pc < 0 ∨ (0 ≤ t.pc ∧ (code.length : Int) < t.pc) := by omega
    clear hi
    rcases hcase with h1 | ⟨h1, h2⟩
    all_goals
      go_enter Try.func61, Try.ntmps61
      go_wp2_with fail
      go_ret
      exact ⟨ret_bool HN.out.symm, HB.out⟩
  have hi := Classical.not_not.1 hi
  have hib : inB t.pc 0 code.length = true := by simp [inB, hi.1, hi.2]
  by_cases hl : ¬ t.v.length = 4
  · have HN : Hid (thOk pc t code = false) := Lib.hid (by simp [thOk, hl])
    have e4 : ((t.v.length : Int) != 4) = true := by simp; omega
    clear hl hib
    go_enter Try.func61, Try.ntmps61
    go_wp2_with fail
    go_ret
    exact ⟨ret_bool HN.out.symm, HB.out⟩
  have hl := Classical.not_not.1 hl
  have e4 : ((t.v.length : Int) != 4) = false := by simp [hl]
  have hC := impl_BufOk _ t.f _ hfw
  cases hbf : bufOk t.f
  · rw [hbf] at hC
    have HC := Lib.hid hC
    have HN : Hid (thOk pc t code = false) := Lib.hid (by simp [thOk, hbf])
    clear hl hib hbf hC
    go_enter Try.func61, Try.ntmps61
    go_wp2_with fail
    refine HC.out.mono ?_
    rintro e w1 ⟨rfl, hb1⟩
    go_wp2_with fail
    go_ret
    exact ⟨ret_bool HN.out.symm, HB.out.trans (hb1.mono HB.out.size)⟩
  rw [hbf] at hC
  have HC := Lib.hid hC
  have HQ : Hid (thOk pc t code = (t.v.all valB && t.f.all (lowA pc))) := Lib.hid (by simp [thOk, hib, hl, hbf])
  have hl4 : t.v.length ≤ 4 := by omega
  have hf3 : t.f.length ≤ 3 := by simp only [bufOk, Bool.and_eq_true, decide_eq_true_eq] at hbf; exact hbf.1
  clear hl hib hbf hC
  go_enter Try.func61, Try.ntmps61
  go_wp2_with fail
  refine HC.out.mono ?_
  rintro e w1 ⟨rfl, hb1⟩
  have KT := K.below hb1 K.lt
  have RV := haw.below hb1
  have RF := hfw.below hb1
  have hBp := HB.out.trans (hb1.mono HB.out.size)
  obtain ⟨t1, -⟩ := KT.at_ 1 (x := .slice A t.v.length c) rfl
  obtain ⟨t2, -⟩ := KT.at_ 2 (x := .slice B t.f.length d) rfl
  clear HC HB hb1 haw hfw K
  go_wp2_with fail
  go_loop [8, 36] (fun x i => ∃ m : Nat, m ≤ t.v.length ∧ i = .int .i64 m ∧ Hid ((t.v.take m).all valB = true)) (fun _ i => t.v.length - (intOf i).toNat)
  case atStart => exact ⟨0, Nat.zero_le _, rfl, Lib.hid (by simp)⟩
  case round =>
    obtain ⟨m, hm', rfl, HM⟩ := hrel
    by_cases hmlt : m < t.v.length
    · obtain ⟨Av', cv', hve, -, -, -, hrv'⟩ := id RV
      injection hve with hve1 _ hve3
      subst hve1 hve3
      obtain ⟨b2, o2, rfl, hb2, hcell2⟩ := hrv' (by omega)
      obtain ⟨x, hxm, hxc⟩ := int_at hcell2 hmlt
      have hC := impl_valueOk x w1
      cases hok : valB x
      · rw [hok] at hC
        have HC := Lib.hid hC
        have HN : Hid (thOk pc t code = false) := Lib.hid (by rw [HQ.out, allN_false hxm.out hok]; rfl)
        clear hC hok hcell2 hrv' RV RF
        go_wp2_with fail
        refine HC.out.mono ?_
        rintro e w9 ⟨rfl, rfl⟩
        go_wp2_with fail
        go_ret
        exact ⟨ret_bool HN.out.symm, hBp⟩
      · rw [hok] at hC
        have HC := Lib.hid hC
        have HN := Lib.hid (allN_snoc HM.out hxm.out hok)
        clear hC hok hcell2 hrv' RV RF
        go_wp2_with fail
        refine HC.out.mono ?_
        rintro e w9 ⟨rfl, rfl⟩
        go_wp2_with fail
        exact ⟨⟨m + 1, by omega, by go_num, HN⟩, by simp [intOf]; omega⟩
    · obtain rfl : m = t.v.length := by omega
      have hva := HM.out
      rw [List.take_length] at hva
      have HQ2 : Hid (thOk pc t code = t.f.all (lowA pc)) := Lib.hid (by rw [HQ.out, hva]; rfl)
      clear hva HQ
      go_wp2_with fail
      go_loopw [10, 47] (fun s i wz => ∃ n : Nat, n ≤ t.f.length ∧ i = .int .i64 n ∧ Hid ((t.f.take n).all (lowA pc) = true) ∧ Below w1.heap.size w1 wz) (fun _ i _ => t.f.length - (intOf i).toNat)
      case atStart => exact ⟨0, Nat.zero_le _, rfl, Lib.hid (by simp), Below.refl _ _⟩
      case round =>
        obtain ⟨n, hn', rfl, HM2, hBz⟩ := hrel
        by_cases hnlt : n < t.f.length
        · obtain ⟨Af', cf', hfe, -, -, -, hrf'⟩ := id RF
          injection hfe with hfe1 _ hfe3
          subst hfe1 hfe3
          obtain ⟨b2, o2, rfl, hb2, hcell2⟩ := hrf' (by omega)
          obtain ⟨x, hxm, hxc0, hxc1⟩ := p2_at (fun j u hu => (hBz.cell (p := ⟨b2, o2 + j, none⟩) hb2).trans (hcell2 j u hu)) hnlt
          have hnl' : (n : Int) < t.f.length := by omega
          cases hok : lowA pc x
          · have hge : decide (pc ≤ x.a) = true := by simp [lowA] at hok; simpa using hok
            have HN : Hid (thOk pc t code = false) := Lib.hid (by rw [HQ2.out, allN_false hxm.out hok])
            clear hok hcell2 hrf' RV RF
            go_wp2_with fail
            go_ret
            exact ⟨ret_bool HN.out.symm, (hBp.trans (hBz.mono hBp.size)).alloc (by have := hBp.size; have := hBz.size; omega) _⟩
          · have hge : decide (pc ≤ x.a) = false := by simp [lowA] at hok; simpa using hok
            have HN := Lib.hid (allN_snoc HM2.out hxm.out hok)
            clear hok hcell2 hrf' RV RF
            go_wp2_with fail
            exact ⟨⟨n + 1, by omega, by go_num, HN, hBz.alloc hBz.size _⟩, by simp [intOf]; omega⟩
        · obtain rfl : n = t.f.length := by omega
          have hva := HM2.out
          rw [List.take_length] at hva
          have HN : Hid (thOk pc t code = true) := Lib.hid (HQ2.out.trans hva)
          clear hva
          go_wp2_with fail
          go_ret
          exact ⟨ret_bool HN.out.symm, hBp.trans (hBz.mono hBp.size)⟩
set_option maxHeartbeats 400000 in
theorem impl_atEnd (t : Th) (a f v : Value) (code : List Ins) (w : World) (hv : ∃ A c, v = .slice A code.length c) :
    Calls Try.prog 78 #[.agg #[.int .i64 t.pc, a, f], v] w fun e w' => e = .returned (.bool (endT t code)) ∧ Below w.heap.size w w' := by
  obtain ⟨A, c, rfl⟩ := hv
  have HB := Lib.hid ((Below.refl w.heap.size w).alloc (Nat.le_refl _) (.cells #[.int .i64 t.pc, a, f] 71))
  by_cases h : t.pc = code.length
  · have e : ((t.pc : Int) == (code.length : Int)) = true := by simp [h]
    have HN : Hid (endT t code = true) := Lib.hid (by simp [endT, h])
    clear h
    go_enter Try.func78, Try.ntmps78
    go_wp2_with fail
    go_ret
    exact ⟨ret_bool HN.out.symm, HB.out⟩
  · have e : ((t.pc : Int) == (code.length : Int)) = false := by simp [h]
    have HN : Hid (endT t code = false) := Lib.hid (by simp [endT, h])
    clear h
    go_enter Try.func78, Try.ntmps78
    go_wp2_with fail
    go_ret
    exact ⟨ret_bool HN.out.symm, HB.out⟩
set_option maxHeartbeats 400000 in
theorem impl_canDrain (t : Th) (a f : Value) (w : World) (hf : ∃ A c, f = .slice A t.f.length c) :
    Calls Try.prog 75 #[.agg #[.int .i64 t.pc, a, f]] w fun e w' => e = .returned (.bool (canDr t)) ∧ Below w.heap.size w w' := by
  obtain ⟨A, c, rfl⟩ := hf
  have HB := Lib.hid ((Below.refl w.heap.size w).alloc (Nat.le_refl _) (.cells #[.int .i64 t.pc, a, .slice A t.f.length c] 71))
  by_cases h : 0 < t.f.length
  · have HN : Hid (canDr t = true) := Lib.hid (by simp [canDr, h])
    go_enter Try.func75, Try.ntmps75
    go_wp2_with fail
    go_ret
    exact ⟨ret_bool HN.out.symm, HB.out⟩
  · have HN : Hid (canDr t = false) := Lib.hid (by simp only [canDr, decide_eq_false_iff_not]; exact h)
    go_enter Try.func75, Try.ntmps75
    go_wp2_with fail
    go_ret
    exact ⟨ret_bool HN.out.symm, HB.out⟩
end Go.Proofs.Ytiflooopfpcelaa
