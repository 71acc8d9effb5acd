/- Contracts of spec.SpotOk and impl.SpotOk: a spot of a program. Condition: the codes can be read. -/
import Derived.Test.YtgbgjlmkmlhefaaV12
import Derived.Deep.DeepCutAuto
import Derived.Deep.RegionHeld3
import Derived.Deep.RegionWith
namespace Go.Proofs.Ytgbgjlmkmlhefaa
set_option maxRecDepth 20000
set_option linter.unusedSimpArgs false
set_option linter.unusedVariables false
open Go.ChangeShapes Go.WideShapes Go.ChangeAt Go.RowKit
set_option linter.unusedVariables false
theorem spot_no {p : Pr} {s : P2} (h : progOkF p = false) : spotB p s = false := by simp [spotB, h]
theorem spot_out {p : Pr} {s : P2} (h : inB s.a 0 ((p.x.length : Int) - 1) = false) : spotB p s = false := by simp [spotB, h]
theorem spot_in {p : Pr} {i : Nat} {b : Int} {xs : List Ins} (h : progOkF p = true) (h1 : inB (i : Int) 0 ((p.x.length : Int) - 1) = true) (hx : p.x[i]? = some xs) : spotB p ⟨(i : Int), b⟩ = inB b 0 xs.length := by
  simp [spotB, h, h1, codeAt, hx]
set_option maxHeartbeats 3200000 in
theorem spec_SpotOk (v : Value) (s : P2) (p : Pr) (w : World) (h : RdSS w v p.x) :
    Calls Try.prog 11 #[.agg #[.int .i64 s.a, .int .i64 s.b], .agg #[.int .i64 p.c, v]] w fun e w' => e = .returned (.bool (spotB p s)) ∧ Below w.heap.size w w' := by
  obtain ⟨vs, ⟨A, c, rfl, -, hnc, hc, hr⟩, hin⟩ := id h
  unfold maxLen at hc
  obtain ⟨sa, sb⟩ := s
  obtain ⟨W, hW⟩ : ∃ W, (w.alloc (.cells #[.int .i64 sa, .int .i64 sb] 29)).alloc (.cells #[.int .i64 p.c, .slice A p.x.length c] 33) = W := ⟨_, rfl⟩
  have k0 := (Bk.new w #[.int .i64 sa, .int .i64 sb] 29).alloc (.cells #[.int .i64 p.c, .slice A p.x.length c] 33)
  have k1 := Bk.new (w.alloc (.cells #[.int .i64 sa, .int .i64 sb] 29)) #[.int .i64 p.c, .slice A p.x.length c] 33
  have hB0 := ((Below.refl w.heap.size w).alloc (Nat.le_refl _) (.cells #[.int .i64 sa, .int .i64 sb] 29)).alloc (by simp) (.cells #[.int .i64 p.c, .slice A p.x.length c] 33)
  simp only [World.size_alloc] at k1
  rw [hW] at k0 k1 hB0
  have HW := Lib.hid hW
  have hwr : IntKind.i64.wrap ((p.x.length : Int) - 1) = (p.x.length : Int) - 1 := IntWalk.i64_in _ (by omega)
  have hRW := h.below hB0
  have hC : ∀ q : Past W, Calls Try.prog 42 #[.agg #[.int .i64 p.c, .slice A p.x.length c]] q.v fun e w' => e = .returned (.bool (progOkF p)) ∧ Below q.v.heap.size q.v w' := fun q => spec_ProgOk _ p _ (hRW.below q.hb)
  obtain ⟨c0, -⟩ := k0.at_ 0 (x := .int .i64 sa) rfl
  obtain ⟨c1, -⟩ := k0.at_ 1 (x := .int .i64 sb) rfl
  obtain ⟨c2, -⟩ := k1.at_ 0 (x := .int .i64 p.c) rfl
  obtain ⟨c3, -⟩ := k1.at_ 1 (x := .slice A p.x.length c) rfl
  have p0 := Past.cell k0.lt c0
  have p1 := Past.cell k0.lt c1
  have p2 := Past.cell k1.lt c2
  have p3 := Past.cell k1.lt c3
  have HB0 := Lib.hid hB0
  clear c0 c1 c2 c3 hW hB0 k0 k1 hRW h
  cases hok : progOkF p
  · have HV : Hid (spotB p ⟨sa, sb⟩ = false) := Lib.hid (spot_no hok)
    rw [hok] at hC
    have HC := Lib.hid hC
    clear hC hok hr hin
    go_enter Try.func11, Try.ntmps11
    go_upto_region 1 with (fail)
    rw [HW.out]
    refine wp_region_past (by kernel_rfl) (by kernel_rfl) ?_
    repeat (go_big_quiet_step (first | (go_at_call 42; exact Calls.past_of (HC.out _))))
    refine wpQuiet_nil ?_
    intro _ hw'
    obtain ⟨q, rfl⟩ := hw'
    go_wp2_with fail
    go_ret
    exact ⟨ret_bool HV.out.symm, HB0.out.trans (q.hb.mono HB0.out.size)⟩
  · have hpl := (progOk_parts hok).2.1
    have HOK := Lib.hid hok
    rw [hok] at hC
    have HC := Lib.hid hC
    clear hC hok
    have hI1 : ∀ W : World, Calls Try.prog 43 #[.int .i64 sa, .int .i64 0, .int .i64 ((p.x.length : Int) - 1)] W fun e w' => e = .returned (.bool (inB sa 0 ((p.x.length : Int) - 1))) ∧ Below W.heap.size W w' := fun W => toB (l01In _ _ _ W)
    cases h1 : inB sa 0 ((p.x.length : Int) - 1)
    · have HV : Hid (spotB p ⟨sa, sb⟩ = false) := Lib.hid (spot_out h1)
      rw [h1] at hI1
      have HI1 := Lib.hid hI1
      clear hI1 h1 hr hin
      go_enter Try.func11, Try.ntmps11
      go_upto_region 1 with (fail)
      rw [HW.out]
      refine wp_region_past (by kernel_rfl) (by kernel_rfl) ?_
      repeat (go_big_quiet_step (first | (go_at_call 42; exact Calls.past_of (HC.out _)) | (go_at_call 43; exact Calls.past_of (HI1.out _))))
      refine wpQuiet_nil ?_
      intro _ hw'
      obtain ⟨q, rfl⟩ := hw'
      go_wp2_with fail
      go_ret
      exact ⟨ret_bool HV.out.symm, HB0.out.trans (q.hb.mono HB0.out.size)⟩
    · have h1' := inB_true h1
      obtain ⟨i, rfl⟩ : ∃ i : Nat, sa = i := ⟨sa.toNat, by omega⟩
      obtain ⟨xs, hx⟩ : ∃ xs, p.x[i]? = some xs := ⟨_, List.getElem?_eq_getElem (by omega)⟩
      obtain ⟨b, o, rfl, hb, hcell⟩ := hr (by omega)
      obtain ⟨ck, hck, hrk⟩ := hin.at_ hx
      obtain ⟨Ak, dk, rfl, -, hnk, hdk, -⟩ := hrk
      unfold maxLen at hdk
      have c4 := (HB0.out.cell (p := ⟨b, o + i, none⟩) hb).trans (hcell i _ hck)
      have p4 := Past.cell (Nat.lt_of_lt_of_le hb HB0.out.size) c4
      have HV : Hid (spotB p ⟨(i : Int), sb⟩ = inB sb 0 xs.length) := Lib.hid (spot_in HOK.out h1 hx)
      have hil : (i : Int) < p.x.length := by omega
      rw [h1] at hI1
      have HI1 := Lib.hid hI1
      have HI2 : Hid (∀ W : World, Calls Try.prog 43 #[.int .i64 sb, .int .i64 0, .int .i64 xs.length] W fun e w' => e = .returned (.bool (inB sb 0 xs.length)) ∧ Below W.heap.size W w') := Lib.hid fun W => toB (l01In _ _ _ W)
      clear hI1 h1 h1' hr hin hcell hck c4 hx hb
      go_enter Try.func11, Try.ntmps11
      go_upto_region 1 with (fail)
      rw [HW.out]
      refine wp_region_past (by kernel_rfl) (by kernel_rfl) ?_
      repeat (go_big_quiet_step (first | (go_at_call 42; exact Calls.past_of (HC.out _)) | (go_at_call_of 43 (Value.int .i64 (i : Int) : Value); exact Calls.past_of (HI1.out _)) | (go_at_call_of 43 (Value.int .i64 sb : Value); exact Calls.past_of (HI2.out _))))
      refine wpQuiet_nil ?_
      intro _ hw'
      obtain ⟨q, rfl⟩ := hw'
      go_wp2_with fail
      go_ret
      exact ⟨ret_bool HV.out.symm, HB0.out.trans (q.hb.mono HB0.out.size)⟩
set_option maxHeartbeats 3200000 in
theorem impl_SpotOk (v : Value) (s : P2) (p : Pr) (w : World) (h : RdSS w v p.x) :
    Calls Try.prog 14 #[.agg #[.int .i64 s.a, .int .i64 s.b], .agg #[.int .i64 p.c, v]] w fun e w' => e = .returned (.bool (spotB p s)) ∧ Below w.heap.size w w' := by
  obtain ⟨vs, ⟨A, c, rfl, -, hnc, hc, hr⟩, hin⟩ := id h
  unfold maxLen at hc
  obtain ⟨sa, sb⟩ := s
  obtain ⟨W, hW⟩ : ∃ W, (w.alloc (.cells #[.int .i64 sa, .int .i64 sb] 29)).alloc (.cells #[.int .i64 p.c, .slice A p.x.length c] 33) = W := ⟨_, rfl⟩
  have k0 := (Bk.new w #[.int .i64 sa, .int .i64 sb] 29).alloc (.cells #[.int .i64 p.c, .slice A p.x.length c] 33)
  have k1 := Bk.new (w.alloc (.cells #[.int .i64 sa, .int .i64 sb] 29)) #[.int .i64 p.c, .slice A p.x.length c] 33
  have hB0 := ((Below.refl w.heap.size w).alloc (Nat.le_refl _) (.cells #[.int .i64 sa, .int .i64 sb] 29)).alloc (by simp) (.cells #[.int .i64 p.c, .slice A p.x.length c] 33)
  simp only [World.size_alloc] at k1
  rw [hW] at k0 k1 hB0
  have HW := Lib.hid hW
  have hRW := h.below hB0
  have hC : ∀ q : Past W, Calls Try.prog 45 #[.agg #[.int .i64 p.c, .slice A p.x.length c]] q.v fun e w' => e = .returned (.bool (progOkF p)) ∧ Below q.v.heap.size q.v w' := fun q => impl_ProgOk _ p _ (hRW.below q.hb)
  obtain ⟨c0, -⟩ := k0.at_ 0 (x := .int .i64 sa) rfl
  obtain ⟨c1, -⟩ := k0.at_ 1 (x := .int .i64 sb) rfl
  obtain ⟨c2, -⟩ := k1.at_ 0 (x := .int .i64 p.c) rfl
  obtain ⟨c3, -⟩ := k1.at_ 1 (x := .slice A p.x.length c) rfl
  have p0 := Past.cell k0.lt c0
  have p1 := Past.cell k0.lt c1
  have p2 := Past.cell k1.lt c2
  have p3 := Past.cell k1.lt c3
  have HB0 := Lib.hid hB0
  clear c0 c1 c2 c3 hW hB0 k0 k1 hRW h
  cases hok : progOkF p
  · have HV : Hid (spotB p ⟨sa, sb⟩ = false) := Lib.hid (spot_no hok)
    rw [hok] at hC
    have HC := Lib.hid hC
    clear hC hok hr hin
    go_enter Try.func14, Try.ntmps14
    go_upto_region 1 with (fail)
    rw [HW.out]
    refine wp_region_past (by kernel_rfl) (by kernel_rfl) ?_
    repeat (go_big_quiet_step (first | (go_at_call 45; exact Calls.past_of (HC.out _))))
    refine wpQuiet_nil ?_
    intro _ hw'
    obtain ⟨q, rfl⟩ := hw'
    go_wp2_with fail
    go_ret
    exact ⟨ret_bool HV.out.symm, HB0.out.trans (q.hb.mono HB0.out.size)⟩
  · have hpl := (progOk_parts hok).2.1
    have HOK := Lib.hid hok
    rw [hok] at hC
    have HC := Lib.hid hC
    clear hC hok
    have hI1 : ∀ W : World, Calls Try.prog 46 #[.int .i64 sa, .int .i64 p.x.length] W fun e w' => e = .returned (.bool (inB sa 0 ((p.x.length : Int) - 1))) ∧ Below W.heap.size W w' := fun W => toB (impl_indexOk _ _ W)
    cases h1 : inB sa 0 ((p.x.length : Int) - 1)
    · have HV : Hid (spotB p ⟨sa, sb⟩ = false) := Lib.hid (spot_out h1)
      rw [h1] at hI1
      have HI1 := Lib.hid hI1
      clear hI1 h1 hr hin
      go_enter Try.func14, Try.ntmps14
      go_upto_region 1 with (fail)
      rw [HW.out]
      refine wp_region_past (by kernel_rfl) (by kernel_rfl) ?_
      repeat (go_big_quiet_step (first | (go_at_call 45; exact Calls.past_of (HC.out _)) | (go_at_call 46; exact Calls.past_of (HI1.out _))))
      refine wpQuiet_nil ?_
      intro _ hw'
      obtain ⟨q, rfl⟩ := hw'
      go_wp2_with fail
      go_ret
      exact ⟨ret_bool HV.out.symm, HB0.out.trans (q.hb.mono HB0.out.size)⟩
    · have h1' := inB_true h1
      obtain ⟨i, rfl⟩ : ∃ i : Nat, sa = i := ⟨sa.toNat, by omega⟩
      obtain ⟨xs, hx⟩ : ∃ xs, p.x[i]? = some xs := ⟨_, List.getElem?_eq_getElem (by omega)⟩
      obtain ⟨b, o, rfl, hb, hcell⟩ := hr (by omega)
      obtain ⟨ck, hck, hrk⟩ := hin.at_ hx
      obtain ⟨Ak, dk, rfl, -, hnk, hdk, -⟩ := hrk
      unfold maxLen at hdk
      have c4 := (HB0.out.cell (p := ⟨b, o + i, none⟩) hb).trans (hcell i _ hck)
      have p4 := Past.cell (Nat.lt_of_lt_of_le hb HB0.out.size) c4
      have HV : Hid (spotB p ⟨(i : Int), sb⟩ = inB sb 0 xs.length) := Lib.hid (spot_in HOK.out h1 hx)
      have hil : (i : Int) < p.x.length := by omega
      have hx16 := codeOk_len ((progOk_parts HOK.out).2.2 xs (List.mem_of_getElem? hx))
      have hwr : IntKind.i64.wrap ((xs.length : Int) + 1) = (xs.length : Int) + 1 := IntWalk.i64_in _ (by omega)
      rw [h1] at hI1
      have HI1 := Lib.hid hI1
      have HI2 : Hid (∀ W : World, Calls Try.prog 46 #[.int .i64 sb, .int .i64 ((xs.length : Int) + 1)] W fun e w' => e = .returned (.bool (inB sb 0 xs.length)) ∧ Below W.heap.size W w') := Lib.hid fun W => by have h := impl_indexOk sb ((xs.length : Int) + 1) W; rw [show ((xs.length : Int) + 1 - 1) = xs.length from by omega] at h; exact toB h
      clear hI1 h1 h1' hr hin hcell hck c4 hx hb
      go_enter Try.func14, Try.ntmps14
      go_upto_region 1 with (fail)
      rw [HW.out]
      refine wp_region_past (by kernel_rfl) (by kernel_rfl) ?_
      repeat (go_big_quiet_step (first | (go_at_call 45; exact Calls.past_of (HC.out _)) | (go_at_call_of 46 (Value.int .i64 (i : Int) : Value); exact Calls.past_of (HI1.out _)) | (go_at_call_of 46 (Value.int .i64 sb : Value); exact Calls.past_of (HI2.out _))))
      refine wpQuiet_nil ?_
      intro _ hw'
      obtain ⟨q, rfl⟩ := hw'
      go_wp2_with fail
      go_ret
      exact ⟨ret_bool HV.out.symm, HB0.out.trans (q.hb.mono HB0.out.size)⟩
end Go.Proofs.Ytgbgjlmkmlhefaa
