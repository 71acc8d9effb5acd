/- Contract of impl.InstrOk: it answers as the model does, whatever the instruction. No condition. -/
import Derived.Test.YtgbgjlmkmlhefaaI4
namespace Go.Proofs.Ytgbgjlmkmlhefaa
set_option maxRecDepth 20000
set_option linter.unusedSimpArgs false
set_option linter.unusedVariables false
open Go.ChangeShapes Go.WideShapes Go.ChangeAt Go.RowKit
theorem insOk_eq {o r s n cells size : Int} (h1 : inB cells 1 16 = true) (h2 : inB size 0 16 = true) (h3 : inB o 0 8 = true) :
    insOk ⟨o, r, s, n⟩ cells size = (regF r (inR o) && regF s (inS o) && decide (lowF o ≤ n) && decide (n ≤ highF o cells size)) := by
  have hc := inB_true h1
  have hs := inB_true h2
  rcases op_cases h3 with rfl | rfl | rfl | rfl | rfl | rfl | rfl | rfl | rfl
  all_goals
    rw [Bool.eq_iff_iff]
    simp [insOk, h1, h2, nOkF, regF, inR, inS, inA, lowF, highF, inB, nm0r, nm0s, nm0n, nm1r, nm1s, nm1n, nm2r, nm2s, nm2n, nm3r, nm3s, nm3n, nm4r, nm4s, nm4n, nm5r, nm5s, nm5n, nm6r, nm6s, nm6n, nm7r, nm7s, nm7n, nm8r, nm8s, nm8n]
    try omega
set_option maxHeartbeats 3200000 in
theorem impl_InstrOk (i : Ins) (cells size : Int) (w : World) :
    Calls Try.prog 92 #[(Value.agg #[.int .i64 i.o, .int .i64 i.r, .int .i64 i.s, .int .i64 i.n]), .int .i64 cells, .int .i64 size] w fun e w' => e = .returned (.bool (insOk i cells size)) ∧ Below w.heap.size w w' := by
  obtain ⟨o, r, s, n⟩ := i
  have hB := (Below.refl w.heap.size w).alloc (Nat.le_refl _) (.cells #[.int .i64 o, .int .i64 r, .int .i64 s, .int .i64 n] 74)
  have HB := Lib.hid hB
  clear hB
  cases hcc : inB cells 1 16 && inB size 0 16 && inB o 0 8
  · have HF : Hid (insOk ⟨o, r, s, n⟩ cells size = false) := Lib.hid (by simp only [insOk, hcc, Bool.false_and])
    have hcase : inB cells 1 16 = false ∨ (inB cells 1 16 = true ∧ size < 0) ∨ (inB cells 1 16 = true ∧ 0 ≤ size ∧ 16 < size) ∨ (inB cells 1 16 = true ∧ 0 ≤ size ∧ size ≤ 16 ∧ inB o 0 8 = false) := by
      revert hcc
      cases inB cells 1 16 <;> cases inB o 0 8 <;> simp [inB] <;> omega
    clear hcc
    rcases hcase with h1 | ⟨h1, h2⟩ | ⟨h1, h2, h2'⟩ | ⟨h1, h2, h2', h3⟩
    · go_enter Try.func92, Try.ntmps92
      go_wp2_with (go_at_call 79; refine (impl_cellsOk _ _).mono ?_; rintro e w' ⟨rfl, rfl⟩)
      go_ret
      exact ⟨ret_bool HF.out.symm, HB.out⟩
    · go_enter Try.func92, Try.ntmps92
      go_wp2_with (go_at_call 79; refine (impl_cellsOk _ _).mono ?_; rintro e w' ⟨rfl, rfl⟩)
      go_ret
      exact ⟨ret_bool HF.out.symm, HB.out⟩
    · go_enter Try.func92, Try.ntmps92
      go_wp2_with (go_at_call 79; refine (impl_cellsOk _ _).mono ?_; rintro e w' ⟨rfl, rfl⟩)
      go_ret
      exact ⟨ret_bool HF.out.symm, HB.out⟩
    · go_enter Try.func92, Try.ntmps92
      go_wp2_with (first
        | (go_at_call 79; refine (impl_cellsOk _ _).mono ?_; rintro e w' ⟨rfl, rfl⟩)
        | (go_at_call 65; refine (ins_op ⟨o, r, s, n⟩ _).mono ?_; rintro e w1 ⟨rfl, hb1⟩)
        | (go_at_call 102; refine (oc_known _ _).mono ?_; rintro e w' ⟨rfl, rfl⟩))
      go_ret
      exact ⟨ret_bool HF.out.symm, HB.out.trans (hb1.mono HB.out.size)⟩
  · simp only [Bool.and_eq_true] at hcc
    obtain ⟨⟨h1, h2⟩, h3⟩ := hcc
    have HE := Lib.hid (insOk_eq (r := r) (s := s) (n := n) h1 h2 h3)
    have hin := inB_true h1
    obtain ⟨h2a, h2b⟩ := inB_true h2
    have hk := Bk.new w #[.int .i64 o, .int .i64 r, .int .i64 s, .int .i64 n] 74
    clear h2
    obtain ⟨A, hA⟩ : ∃ A, regF r (inR o) = A := ⟨_, rfl⟩
    obtain ⟨B, hBB⟩ : ∃ B, regF s (inS o) = B := ⟨_, rfl⟩
    have hL : lowF o ≤ n ∨ n < lowF o := by omega
    generalize hlo : lowF o = lo at HE hL
    generalize hhi : highF o cells size = hi at HE
    go_enter Try.func92, Try.ntmps92
    go_wp2_with (first
      | (go_at_call 79; refine (impl_cellsOk _ _).mono ?_; rintro e w' ⟨rfl, rfl⟩)
      | (go_at_call 102; refine (oc_known _ _).mono ?_; rintro e w' ⟨rfl, rfl⟩))
    refine (ins_op ⟨o, r, s, n⟩ _).mono ?_
    rintro e w1 ⟨rfl, hb1⟩
    have hk1 := hk.below hb1 hk.lt
    have HB1 := Lib.hid (HB.out.trans (hb1.mono HB.out.size))
    obtain ⟨c0, -⟩ := hk1.at_ 0 rfl
    obtain ⟨c1, -⟩ := hk1.at_ 1 rfl
    obtain ⟨c2, -⟩ := hk1.at_ 2 rfl
    obtain ⟨c3, -⟩ := hk1.at_ 3 rfl
    go_wp2_with (go_at_call 102; refine (oc_known _ _).mono ?_; rintro e w' ⟨rfl, rfl⟩)
    refine (ins_op ⟨o, r, s, n⟩ _).mono ?_
    rintro e w2 ⟨rfl, hb2⟩
    have hk2 := hk1.below hb2 hk1.lt
    have HB2 := Lib.hid (HB1.out.trans (hb2.mono HB1.out.size))
    go_wp2_with fail
    refine (oc_limitsOfN o cells size _ hin).mono ?_
    rintro e w3 ⟨rfl, hb3⟩
    have hk3 := hk2.below hb3 hk2.lt
    have HB3 := Lib.hid (HB2.out.trans (hb3.mono HB2.out.size))
    rw [hlo, hhi]
    clear c0 c1 c2 c3
    obtain ⟨c0, -⟩ := hk3.at_ 0 rfl
    obtain ⟨c1, -⟩ := hk3.at_ 1 rfl
    obtain ⟨c2, -⟩ := hk3.at_ 2 rfl
    obtain ⟨c3, -⟩ := hk3.at_ 3 rfl
    have l3 := hk3.lt
    have p0 := Past.cell l3 c0
    have p1 := Past.cell l3 c1
    have p2 := Past.cell l3 c2
    have p3 := Past.cell l3 c3
    have rA : ∀ W, Calls Try.prog 104 #[.int .i64 r, .bool (inR o)] W fun e w' => e = .returned (.bool A) ∧ Below W.heap.size W w' := fun W => hA ▸ toB (impl_registerOk r (inR o) W)
    have rB : ∀ W, Calls Try.prog 104 #[.int .i64 s, .bool (inS o)] W fun e w' => e = .returned (.bool B) ∧ Below W.heap.size W w' := fun W => hBB ▸ toB (impl_registerOk s (inS o) W)
    have rO := fun W => ins_op ⟨o, r, s, n⟩ W
    have rR := fun W => toB (oc_usesR o W)
    have rS := fun W => oc_usesS o W
    have HE2 : Hid (insOk ⟨o, r, s, n⟩ cells size = (A && B && decide (lo ≤ n) && decide (n ≤ hi))) := Lib.hid (by rw [HE.out, hA, hBB])
    clear HE hA hBB
    generalize inR o = u1 at rA rR
    generalize inS o = u2 at rB rS
    have HR := Lib.hid (And.intro rA (And.intro rB (And.intro rO (And.intro rR rS))))
    clear hk hk1 hk2 hb1 hb2 hb3 HB HB1 HB2 rA rB rO rR rS
    go_wp2_with fail
    cases A
    · have HV : Hid (insOk ⟨o, r, s, n⟩ cells size = false) := Lib.hid (by rw [HE2.out]; simp)
      clear HE2 hL
      refine wp_region_past (by kernel_rfl) (by kernel_rfl) ?_
      repeat (go_big_quiet_step (first | (go_at_call 65; exact Calls.past_of (HR.out.2.2.1 _)) | (go_at_call 105; exact Calls.past_of (HR.out.2.2.2.1 _)) | (go_at_call 106; exact Calls.past_of (HR.out.2.2.2.2 _)) | (go_at_call_of 104 (Value.bool u1 : Value); exact Calls.past_of (HR.out.1 _)) | (go_at_call_of 104 (Value.bool u2 : Value); exact Calls.past_of (HR.out.2.1 _))))
      refine wpQuiet_nil ?_
      intro _ hw'
      obtain ⟨p, rfl⟩ := hw'
      go_wp2_with fail
      go_ret
      exact ⟨ret_bool HV.out.symm, HB3.out.trans (p.hb.mono HB3.out.size)⟩
    · cases B
      · have HV : Hid (insOk ⟨o, r, s, n⟩ cells size = false) := Lib.hid (by rw [HE2.out]; simp)
        clear HE2 hL
        refine wp_region_past (by kernel_rfl) (by kernel_rfl) ?_
        repeat (go_big_quiet_step (first | (go_at_call 65; exact Calls.past_of (HR.out.2.2.1 _)) | (go_at_call 105; exact Calls.past_of (HR.out.2.2.2.1 _)) | (go_at_call 106; exact Calls.past_of (HR.out.2.2.2.2 _)) | (go_at_call_of 104 (Value.bool u1 : Value); exact Calls.past_of (HR.out.1 _)) | (go_at_call_of 104 (Value.bool u2 : Value); exact Calls.past_of (HR.out.2.1 _))))
        refine wpQuiet_nil ?_
        intro _ hw'
        obtain ⟨p, rfl⟩ := hw'
        go_wp2_with fail
        go_ret
        exact ⟨ret_bool HV.out.symm, HB3.out.trans (p.hb.mono HB3.out.size)⟩
      · rcases hL with hL | hL
        · have HV : Hid (insOk ⟨o, r, s, n⟩ cells size = decide (n ≤ hi)) := Lib.hid (by rw [HE2.out]; simp [hL])
          have hd : decide (lo ≤ n) = true := by simp [hL]
          clear HE2
          refine wp_region_past (by kernel_rfl) (by kernel_rfl) ?_
          repeat (go_big_quiet_step (first | (go_at_call 65; exact Calls.past_of (HR.out.2.2.1 _)) | (go_at_call 105; exact Calls.past_of (HR.out.2.2.2.1 _)) | (go_at_call 106; exact Calls.past_of (HR.out.2.2.2.2 _)) | (go_at_call_of 104 (Value.bool u1 : Value); exact Calls.past_of (HR.out.1 _)) | (go_at_call_of 104 (Value.bool u2 : Value); exact Calls.past_of (HR.out.2.1 _))))
          refine wpQuiet_nil ?_
          intro _ hw'
          obtain ⟨p, rfl⟩ := hw'
          go_wp2_with fail
          go_ret
          exact ⟨ret_bool HV.out.symm, HB3.out.trans (p.hb.mono HB3.out.size)⟩
        · have HV : Hid (insOk ⟨o, r, s, n⟩ cells size = false) := Lib.hid (by rw [HE2.out]; simp; intro h; omega)
          have hd : decide (lo ≤ n) = false := by simp; omega
          clear HE2
          refine wp_region_past (by kernel_rfl) (by kernel_rfl) ?_
          repeat (go_big_quiet_step (first | (go_at_call 65; exact Calls.past_of (HR.out.2.2.1 _)) | (go_at_call 105; exact Calls.past_of (HR.out.2.2.2.1 _)) | (go_at_call 106; exact Calls.past_of (HR.out.2.2.2.2 _)) | (go_at_call_of 104 (Value.bool u1 : Value); exact Calls.past_of (HR.out.1 _)) | (go_at_call_of 104 (Value.bool u2 : Value); exact Calls.past_of (HR.out.2.1 _))))
          refine wpQuiet_nil ?_
          intro _ hw'
          obtain ⟨p, rfl⟩ := hw'
          go_wp2_with fail
          go_ret
          exact ⟨ret_bool HV.out.symm, HB3.out.trans (p.hb.mono HB3.out.size)⟩
end Go.Proofs.Ytgbgjlmkmlhefaa
