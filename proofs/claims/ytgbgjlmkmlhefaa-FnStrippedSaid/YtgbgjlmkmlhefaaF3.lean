/- Contracts of spec.FenceCost and impl.FenceCost: the number of instructions that wait for the buffer. Condition: the codes can be read. -/
import Derived.Test.YtgbgjlmkmlhefaaV12
import Derived.Deep.DeepCutAuto
import Derived.Deep.RegionHeld3
namespace Go.Proofs.Ytgbgjlmkmlhefaa
set_option maxRecDepth 20000
set_option linter.unusedSimpArgs false
set_option linter.unusedVariables false
open Go.ChangeShapes Go.WideShapes Go.ChangeAt Go.RowKit
set_option linter.unusedVariables false
theorem costF_yes {p : Pr} (h : progOkF p = true) : costF p = (costX p.x p.x.length : Int) := by simp [costF, h]
theorem costF_no {p : Pr} (h : progOkF p = false) : costF p = -1 := by simp [costF, h]
set_option maxHeartbeats 3200000 in
theorem spec_FenceCost (v : Value) (p : Pr) (w : World) (h : RdSS w v p.x) :
    Calls Try.prog 27 #[.agg #[.int .i64 p.c, v]] w fun e w' => e = .returned (.int .i64 (costF p)) ∧ Below w.heap.size w w' := by
  obtain ⟨vs, ⟨A, c, rfl, -, hnc, hc, hr⟩, hin⟩ := id h
  unfold maxLen at hc
  have hB0 := (Below.refl w.heap.size w).alloc (Nat.le_refl _) (.cells #[.int .i64 p.c, .slice A p.x.length c] 33)
  have k0 := Bk.new w #[.int .i64 p.c, .slice A p.x.length c] 33
  have hC := spec_ProgOk _ p _ (h.below hB0)
  have l0 := k0.lt
  obtain ⟨hq0, -⟩ := k0.at_ 0 (x := .int .i64 p.c) rfl
  obtain ⟨hq1, -⟩ := k0.at_ 1 (x := .slice A p.x.length c) rfl
  clear h
  cases hok : progOkF p
  · have HV := Lib.hid (costF_no hok)
    rw [hok] at hC
    have HC := Lib.hid hC
    clear hC hok hr hin k0
    go_enter Try.func27, Try.ntmps27
    go_wp2_with fail
    refine HC.out.mono ?_
    rintro e w1 ⟨rfl, hb1⟩
    go_wp2_with fail
    go_ret
    exact ⟨ret_int HV.out.symm, hB0.trans (hb1.mono hB0.size)⟩
  · have HV := Lib.hid (costF_yes hok)
    have HOK := Lib.hid hok
    have hpl := (progOk_parts hok).2.1
    obtain ⟨b, o, rfl, hb, hcell⟩ := hr (by omega)
    rw [hok] at hC
    have HC := Lib.hid hC
    clear hC hok
    go_enter Try.func27, Try.ntmps27
    go_wp2_with fail
    refine HC.out.mono ?_
    rintro e w1 ⟨rfl, hb1⟩
    have k1 := k0.below hb1 l0
    have hB1 := hB0.trans (hb1.mono hB0.size)
    clear hq0 hq1 hb1
    go_wp2_with fail
    go_loopw [3, 4] (fun nv i wr => ∃ k N : Nat, k ≤ p.x.length ∧ i = .int .i64 k ∧ nv = .int .i64 N ∧ N ≤ 16 * k ∧ Hid (N = costX p.x k) ∧ Below w.heap.size w wr ∧ Bk wr w.heap.size #[.int .i64 p.c, .slice (some ⟨b, o, none⟩) p.x.length c] 33) (fun _ i _ => p.x.length - (intOf i).toNat)
    case atStart => exact ⟨0, 0, Nat.zero_le _, rfl, rfl, Nat.le_refl _, Lib.hid rfl, hB1, k1⟩
    case round =>
      obtain ⟨k, N, hk, rfl, rfl, hN, HN, hB, kp⟩ := hrel
      clear hB1 k1 k0 hB0
      obtain ⟨hq0, -⟩ := kp.at_ 0 (x := .int .i64 p.c) rfl
      obtain ⟨hq1, -⟩ := kp.at_ 1 (x := .slice (some ⟨b, o, none⟩) p.x.length c) rfl
      have l1 := kp.lt
      by_cases hlt : k < p.x.length
      · obtain ⟨xs, hxk⟩ : ∃ xs, p.x[k]? = some xs := ⟨_, List.getElem?_eq_getElem hlt⟩
        obtain ⟨ck, hck, hrk⟩ := hin.at_ hxk
        have hx := (hB.cell (p := ⟨b, o + k, none⟩) hb).trans (hcell k _ hck)
        have lb : b < wr.heap.size := Nat.lt_of_lt_of_le hb hB.size
        have hx16 := codeOk_len ((progOk_parts HOK.out).2.2 xs (List.mem_of_getElem? hxk))
        obtain ⟨Ak, dk, rfl, -, hncx, hcx, hrx⟩ := hrk.below hB
        unfold maxLen at hcx
        have HX := Lib.hid hxk
        clear hcell hr hin hxk hck hrk
        go_wp2_with fail
        rename World => wo
        go_loopw [3, 5] (fun nv j wr => ∃ m M : Nat, m ≤ xs.length ∧ j = .int .i64 m ∧ nv = .int .i64 M ∧ M ≤ 16 * k + m ∧ Hid (M = costX p.x k + costN xs m) ∧ Below wo.heap.size wo wr) (fun _ j _ => xs.length - (intOf j).toNat)
        case atStart => exact ⟨0, N, Nat.zero_le _, rfl, rfl, hN, Lib.hid (by rw [HN.out]; rfl), Below.refl _ _⟩
        case round =>
          obtain ⟨m, M, hm, rfl, rfl, hM, HM, hBq⟩ := hrel
          have kq := kp.below hBq l1
          obtain ⟨hq0', -⟩ := kq.at_ 0 (x := .int .i64 p.c) rfl
          obtain ⟨hq1', -⟩ := kq.at_ 1 (x := .slice (some ⟨b, o, none⟩) p.x.length c) rfl
          have hx' := (hBq.cell (p := ⟨b, o + k, none⟩) lb).trans hx
          clear hq0 hq1 hx
          by_cases hmlt : m < xs.length
          · obtain ⟨b2, o2, rfl, hb2, hcell2⟩ := hrx (by omega)
            obtain ⟨x, hxm, hx0, hx1, hx2, hx3⟩ := ins_at (fun j u hu => (hBq.cell (p := ⟨b2, o2 + j, none⟩) hb2).trans (hcell2 j u hu)) hmlt
            have hF := spec_HasFence x
            have HS := Lib.hid (costN_snoc hxm.out)
            clear hcell2 hrx
            cases hfb : fenceB x
            · rw [hfb] at hF HS
              have HF := Lib.hid hF
              clear hF hfb
              go_wp2_with fail
              refine (HF.out _).mono ?_
              rintro e w2 ⟨rfl, hb3⟩
              go_wp2_with fail
              exact ⟨⟨m + 1, M, by omega, by go_num, rfl, by omega, Lib.hid (by rw [HS.out, HM.out]; rfl), hBq.trans (hb3.mono hBq.size)⟩, by simp [intOf]; omega⟩
            · rw [hfb] at hF HS
              have HF := Lib.hid hF
              clear hF hfb
              go_wp2_with fail
              refine (HF.out _).mono ?_
              rintro e w2 ⟨rfl, hb3⟩
              go_wp2_with fail
              exact ⟨⟨m + 1, M + 1, by omega, by go_num, by go_num, by omega, Lib.hid (by rw [HS.out, HM.out]; rfl), hBq.trans (hb3.mono hBq.size)⟩, by simp [intOf]; omega⟩
          · obtain rfl : m = xs.length := by omega
            have HNN : Hid (M = costX p.x (k + 1)) := Lib.hid (by rw [HM.out, costX_snoc HX.out])
            clear hrx
            go_wp2_with fail
            exact ⟨⟨k + 1, M, by omega, by go_num, rfl, by omega, HNN, hB.trans (hBq.mono hB.size), kq⟩, by simp [intOf]; omega⟩
      · obtain rfl : k = p.x.length := by omega
        clear hcell hr hin
        go_wp2_with fail
        go_ret
        exact ⟨ret_int (by rw [HV.out, HN.out]), hB⟩
set_option maxHeartbeats 3200000 in
theorem impl_FenceCost (v : Value) (p : Pr) (w : World) (h : RdSS w v p.x) :
    Calls Try.prog 28 #[.agg #[.int .i64 p.c, v]] w fun e w' => e = .returned (.int .i64 (costF p)) ∧ Below w.heap.size w w' := by
  obtain ⟨vs, ⟨A, c, rfl, -, hnc, hc, hr⟩, hin⟩ := id h
  unfold maxLen at hc
  have hB0 := (Below.refl w.heap.size w).alloc (Nat.le_refl _) (.cells #[.int .i64 p.c, .slice A p.x.length c] 33)
  have k0 := Bk.new w #[.int .i64 p.c, .slice A p.x.length c] 33
  have hC := impl_ProgOk _ p _ (h.below hB0)
  have l0 := k0.lt
  obtain ⟨hq0, -⟩ := k0.at_ 0 (x := .int .i64 p.c) rfl
  obtain ⟨hq1, -⟩ := k0.at_ 1 (x := .slice A p.x.length c) rfl
  clear h
  cases hok : progOkF p
  · have HV := Lib.hid (costF_no hok)
    rw [hok] at hC
    have HC := Lib.hid hC
    clear hC hok hr hin k0
    go_enter Try.func28, Try.ntmps28
    go_wp2_with fail
    refine HC.out.mono ?_
    rintro e w1 ⟨rfl, hb1⟩
    go_wp2_with fail
    go_ret
    exact ⟨ret_int HV.out.symm, hB0.trans (hb1.mono hB0.size)⟩
  · have HV := Lib.hid (costF_yes hok)
    have HOK := Lib.hid hok
    have hpl := (progOk_parts hok).2.1
    obtain ⟨b, o, rfl, hb, hcell⟩ := hr (by omega)
    rw [hok] at hC
    have HC := Lib.hid hC
    clear hC hok
    go_enter Try.func28, Try.ntmps28
    go_wp2_with fail
    refine HC.out.mono ?_
    rintro e w1 ⟨rfl, hb1⟩
    have k1 := k0.below hb1 l0
    have hB1 := hB0.trans (hb1.mono hB0.size)
    clear hq0 hq1 hb1
    obtain ⟨hz1, -⟩ := k1.at_ 1 (x := .slice (some ⟨b, o, none⟩) p.x.length c) rfl
    go_wp2_with fail
    clear hz1
    go_loopw [3, 5, 14] (fun nv _ i wr => ∃ k N : Nat, k ≤ p.x.length ∧ i = .int .i64 k ∧ nv = .int .i64 N ∧ N ≤ 16 * k ∧ Hid (N = costX p.x k) ∧ Below w.heap.size w wr ∧ Bk wr w.heap.size #[.int .i64 p.c, .slice (some ⟨b, o, none⟩) p.x.length c] 33) (fun _ _ i _ => p.x.length - (intOf i).toNat)
    case atStart => exact ⟨0, 0, Nat.zero_le _, rfl, rfl, Nat.le_refl _, Lib.hid rfl, hB1, k1⟩
    case round =>
      obtain ⟨k, N, hk, rfl, rfl, hN, HN, hB, kp⟩ := hrel
      clear hB1 k1 k0 hB0
      obtain ⟨hq0, -⟩ := kp.at_ 0 (x := .int .i64 p.c) rfl
      obtain ⟨hq1, -⟩ := kp.at_ 1 (x := .slice (some ⟨b, o, none⟩) p.x.length c) rfl
      have l1 := kp.lt
      by_cases hlt : k < p.x.length
      · obtain ⟨xs, hxk⟩ : ∃ xs, p.x[k]? = some xs := ⟨_, List.getElem?_eq_getElem hlt⟩
        obtain ⟨ck, hck, hrk⟩ := hin.at_ hxk
        have hx := (hB.cell (p := ⟨b, o + k, none⟩) hb).trans (hcell k _ hck)
        have lb : b < wr.heap.size := Nat.lt_of_lt_of_le hb hB.size
        have hx16 := codeOk_len ((progOk_parts HOK.out).2.2 xs (List.mem_of_getElem? hxk))
        obtain ⟨Ak, dk, rfl, -, hncx, hcx, hrx⟩ := hrk.below hB
        unfold maxLen at hcx
        have HX := Lib.hid hxk
        clear hcell hr hin hxk hck hrk
        go_wp2_with fail
        rename World => wo
        go_loopw [3, 20] (fun nv j wr => ∃ m M : Nat, m ≤ xs.length ∧ j = .int .i64 m ∧ nv = .int .i64 M ∧ M ≤ 16 * k + m ∧ Hid (M = costX p.x k + costN xs m) ∧ Below wo.heap.size wo wr) (fun _ j _ => xs.length - (intOf j).toNat)
        case atStart => exact ⟨0, N, Nat.zero_le _, rfl, rfl, hN, Lib.hid (by rw [HN.out]; rfl), Below.refl _ _⟩
        case round =>
          obtain ⟨m, M, hm, rfl, rfl, hM, HM, hBq⟩ := hrel
          have kq := kp.below hBq l1
          obtain ⟨hq0', -⟩ := kq.at_ 0 (x := .int .i64 p.c) rfl
          obtain ⟨hq1', -⟩ := kq.at_ 1 (x := .slice (some ⟨b, o, none⟩) p.x.length c) rfl
          have hx' := (hBq.cell (p := ⟨b, o + k, none⟩) lb).trans hx
          clear hq0 hq1 hx
          by_cases hmlt : m < xs.length
          · obtain ⟨b2, o2, rfl, hb2, hcell2⟩ := hrx (by omega)
            obtain ⟨x, hxm, hx0, hx1, hx2, hx3⟩ := ins_at (fun j u hu => (hBq.cell (p := ⟨b2, o2 + j, none⟩) hb2).trans (hcell2 j u hu)) hmlt
            have hF := impl_HasFence x
            have hBa := hBq.alloc hBq.size (.cells #[.int .i64 x.o, .int .i64 x.r, .int .i64 x.s, .int .i64 x.n] 74)
            have HS := Lib.hid (costN_snoc hxm.out)
            clear hcell2 hrx
            cases hfb : fenceB x
            · rw [hfb] at hF HS
              have HF := Lib.hid hF
              clear hF hfb
              go_wp2_with fail
              refine (HF.out _).mono ?_
              rintro e w2 ⟨rfl, hb3⟩
              go_wp2_with fail
              exact ⟨⟨m + 1, M, by omega, by go_num, rfl, by omega, Lib.hid (by rw [HS.out, HM.out]; rfl), hBa.trans (hb3.mono hBa.size)⟩, by simp [intOf]; omega⟩
            · rw [hfb] at hF HS
              have HF := Lib.hid hF
              clear hF hfb
              go_wp2_with fail
              refine (HF.out _).mono ?_
              rintro e w2 ⟨rfl, hb3⟩
              go_wp2_with fail
              exact ⟨⟨m + 1, M + 1, by omega, by go_num, by go_num, by omega, Lib.hid (by rw [HS.out, HM.out]; rfl), hBa.trans (hb3.mono hBa.size)⟩, by simp [intOf]; omega⟩
          · obtain rfl : m = xs.length := by omega
            have HNN : Hid (M = costX p.x (k + 1)) := Lib.hid (by rw [HM.out, costX_snoc HX.out])
            clear hrx
            go_wp2_with fail
            exact ⟨⟨k + 1, M, by omega, by go_num, rfl, by omega, HNN, hB.trans (hBq.mono hB.size), kq⟩, by simp [intOf]; omega⟩
      · obtain rfl : k = p.x.length := by omega
        clear hcell hr hin
        go_wp2_with fail
        go_ret
        exact ⟨ret_int (by rw [HV.out, HN.out]), hB⟩
end Go.Proofs.Ytgbgjlmkmlhefaa
