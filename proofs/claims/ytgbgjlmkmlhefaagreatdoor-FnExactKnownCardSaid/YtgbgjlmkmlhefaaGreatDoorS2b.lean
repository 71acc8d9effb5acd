/- Contracts of chapter 2's model functions (package spec): which fields an op names, a valid instruction, a valid program. -/
import Derived.Test.YtgbgjlmkmlhefaaGreatDoorS2
namespace Go.Proofs.YtgbgjlmkmlhefaaGreatDoor
set_option maxRecDepth 20000
set_option linter.unusedSimpArgs false
set_option linter.unusedVariables false
open Go.ChangeShapes Go.WideShapes Go.ChangeAt Go.RowKit
set_option linter.unusedVariables false
def namedF (o : Int) (c : UInt8) : Bool := (formF o).any (· == c)
theorem formF_len (o : Int) : (formF o).length ≤ 3 := by
  unfold formF
  cases h : inB o 0 8
  · simp
  · rcases op_cases h with rfl | rfl | rfl | rfl | rfl | rfl | rfl | rfl | rfl <;> decide
set_option maxHeartbeats 800000 in
theorem l02Named (o : Int) (c : UInt8) (w : World) :
    Calls Tryz.prog 52 #[.int .i64 o, .int .u8 c.toNat] w fun e w' => e = .returned (.bool (namedF o c)) ∧ Below w.heap.size w w' := by
  have hl := formF_len o
  obtain ⟨s, hs⟩ : ∃ s, formF o = s := ⟨_, rfl⟩
  have HN : Hid (namedF o c = s.any (· == c)) := Lib.hid (by rw [← hs]; rfl)
  go_enter Tryz.func52, Tryz.ntmps52
  go_wp2_with fail
  refine (l02Form o _).mono ?_
  rintro e w1 ⟨rfl, hb1⟩
  rw [hs] at hl ⊢
  clear hs
  have hsz : (⟨s.toArray⟩ : ByteArray).size = s.length := by show s.toArray.size = _; simp
  go_wp2_with fail
  go_loopw [6] (fun i wr => ∃ k : Nat, k ≤ s.length ∧ i = .int .i64 k ∧ Hid (s.any (· == c) = (s.drop k).any (· == c)) ∧ wr = w1) (fun i _ => s.length - (intOf i).toNat)
  case atStart => exact ⟨0, Nat.zero_le _, rfl, Lib.hid rfl, rfl⟩
  case round =>
    obtain ⟨k, hk, rfl, HA, rfl⟩ := hrel
    by_cases hlt : k < s.length
    · have hks : k < (⟨s.toArray⟩ : ByteArray).size := by rw [hsz]; exact hlt
      obtain ⟨b, hb⟩ : ∃ b, s[k]? = some b := ⟨s[k], List.getElem?_eq_getElem hlt⟩
      have hE : ((⟨s.toArray⟩ : ByteArray)[k]'hks) = b := by
        have h1 : s[k] = b := by rw [List.getElem?_eq_getElem hlt] at hb; injection hb
        rw [← h1]
        rfl
      have hdr : s.drop k = b :: s.drop (k + 1) := by
        obtain ⟨h1, h2⟩ := List.getElem?_eq_some_iff.1 hb
        rw [List.drop_eq_getElem_cons h1, h2]
      by_cases hbc : b = c
      · have hq : ((((⟨s.toArray⟩ : ByteArray)[k]'hks).toNat : Int) == (c.toNat : Int)) = true := by rw [hE, hbc]; simp
        have HH : Hid (s.any (· == c) = true) := Lib.hid (by rw [HA.out, hdr]; simp [hbc])
        clear hb hE hbc hdr
        go_wp2_with fail
        go_ret
        exact ⟨ret_bool (HN.out.trans HH.out).symm, hb1⟩
      · have HH : Hid (s.any (· == c) = (s.drop (k + 1)).any (· == c)) := Lib.hid (by rw [HA.out, hdr]; simp [hbc])
        have hq : ((((⟨s.toArray⟩ : ByteArray)[k]'hks).toNat : Int) == (c.toNat : Int)) = false := by
          rw [hE]
          simp only [beq_eq_false_iff_ne, ne_eq]
          intro h
          exact hbc (UInt8.toNat_inj.1 (Int.ofNat.inj h))
        clear hb hE hbc hdr
        go_wp2_with fail
        exact ⟨⟨k + 1, by omega, by go_num, HH, trivial⟩, by simp [intOf]; omega⟩
    · obtain rfl : k = s.length := by omega
      have HH : Hid (s.any (· == c) = false) := Lib.hid (by rw [HA.out]; simp)
      go_wp2_with fail
      go_ret
      exact ⟨ret_bool (HN.out.trans HH.out).symm, hb1⟩
theorem nm0r : namedF 0 114 = true := rfl
theorem nm0s : namedF 0 115 = false := rfl
theorem nm0n : namedF 0 110 = true := rfl
theorem nm1r : namedF 1 114 = true := rfl
theorem nm1s : namedF 1 115 = true := rfl
theorem nm1n : namedF 1 110 = false := rfl
theorem nm2r : namedF 2 114 = true := rfl
theorem nm2s : namedF 2 115 = false := rfl
theorem nm2n : namedF 2 110 = true := rfl
theorem nm3r : namedF 3 114 = true := rfl
theorem nm3s : namedF 3 115 = false := rfl
theorem nm3n : namedF 3 110 = true := rfl
theorem nm4r : namedF 4 114 = false := rfl
theorem nm4s : namedF 4 115 = false := rfl
theorem nm4n : namedF 4 110 = false := rfl
theorem nm5r : namedF 5 114 = true := rfl
theorem nm5s : namedF 5 115 = true := rfl
theorem nm5n : namedF 5 110 = true := rfl
theorem nm6r : namedF 6 114 = true := rfl
theorem nm6s : namedF 6 115 = false := rfl
theorem nm6n : namedF 6 110 = true := rfl
theorem nm7r : namedF 7 114 = true := rfl
theorem nm7s : namedF 7 115 = true := rfl
theorem nm7n : namedF 7 110 = true := rfl
theorem nm8r : namedF 8 114 = true := rfl
theorem nm8s : namedF 8 115 = true := rfl
theorem nm8n : namedF 8 110 = false := rfl
def nOkF (i : Ins) (cells size : Int) : Bool :=
  if i.o = 0 then inB i.n (-1000) 1000 else if i.o = 2 ∨ i.o = 3 ∨ i.o = 5 ∨ i.o = 7 then inB i.n 0 (cells - 1) else if i.o = 6 then inB i.n 0 size else true
def insOk (i : Ins) (cells size : Int) : Bool :=
  inB cells 1 16 && inB size 0 16 && inB i.o 0 8 && inB i.r 0 3 && inB i.s 0 3 && (namedF i.o 114 || i.r == 0) && (namedF i.o 115 || i.s == 0) && (namedF i.o 110 || i.n == 0) && nOkF i cells size
set_option maxHeartbeats 3200000 in
theorem spec_InstrOk (i : Ins) (cells size : Int) (w : World) :
    Calls Tryz.prog 27 #[(Value.agg #[.int .i64 i.o, .int .i64 i.r, .int .i64 i.s, .int .i64 i.n]), .int .i64 cells, .int .i64 size] w fun e w' => e = .returned (.bool (insOk i cells size)) ∧ Below w.heap.size w w' := by
  obtain ⟨o, r, s, n⟩ := i
  have hB := (Below.refl w.heap.size w).alloc (Nat.le_refl _) (.cells #[.int .i64 o, .int .i64 r, .int .i64 s, .int .i64 n] 37)
  have HB := Lib.hid hB
  clear hB
  cases hA : inB cells 1 16 && inB size 0 16 && inB o 0 8
  · have HF : Hid (insOk ⟨o, r, s, n⟩ cells size = false) := Lib.hid (by simp only [insOk, hA, Bool.false_and])
    have hcase : inB cells 1 16 = false ∨ (inB cells 1 16 = true ∧ inB size 0 16 = false) ∨ (inB cells 1 16 = true ∧ inB size 0 16 = true ∧ inB o 0 8 = false) := by
      revert hA
      cases inB cells 1 16 <;> cases inB size 0 16 <;> cases inB o 0 8 <;> simp
    clear hA
    rcases hcase with h1 | ⟨h1, h2⟩ | ⟨h1, h2, h3⟩
    all_goals
      go_enter Tryz.func27, Tryz.ntmps27
      go_wp2_with (go_at_call 26; refine (l01In _ _ _ _).mono ?_; rintro e w' ⟨rfl, rfl⟩)
      go_ret
      exact ⟨ret_bool HF.out.symm, HB.out⟩
  · simp only [Bool.and_eq_true] at hA
    obtain ⟨⟨h1, h2⟩, h3⟩ := hA
    cases hR : inB r 0 3 && inB s 0 3
    · have HF : Hid (insOk ⟨o, r, s, n⟩ cells size = false) := Lib.hid (by simp only [insOk, h1, h2, h3, Bool.true_and, Bool.and_assoc] at hR ⊢; rw [← Bool.and_assoc, hR]; rfl)
      have hcase : inB r 0 3 = false ∨ (inB r 0 3 = true ∧ inB s 0 3 = false) := by
        revert hR
        cases inB r 0 3 <;> cases inB s 0 3 <;> simp
      clear hR
      rcases hcase with h4 | ⟨h4, h5⟩
      all_goals
        go_enter Tryz.func27, Tryz.ntmps27
        go_wp2_with (go_at_call 26; refine (l01In _ _ _ _).mono ?_; rintro e w' ⟨rfl, rfl⟩)
        go_ret
        exact ⟨ret_bool HF.out.symm, HB.out⟩
    · simp only [Bool.and_eq_true] at hR
      obtain ⟨h4, h5⟩ := hR
      have hk := Bk.new w #[.int .i64 o, .int .i64 r, .int .i64 s, .int .i64 n] 37
      have hin := inB_true h1
      rcases op_cases h3 with rfl | rfl | rfl | rfl | rfl | rfl | rfl | rfl | rfl
      · cases zs : (s != (0 : Int))
        · have HF : Hid (insOk ⟨0, r, s, n⟩ cells size = inB n (-1000) 1000) := Lib.hid (by simp [insOk, nOkF, h1, h2, h4, h5, nm0r, nm0s, nm0n, show inB 0 0 8 = true from rfl, show inB 0 0 3 = true from rfl, show s = 0 by simpa using zs])
          go_enter Tryz.func27, Tryz.ntmps27
          go_wp2_with (go_at_call 26; refine (l01In _ _ _ _).mono ?_; rintro e w' ⟨rfl, rfl⟩)
          refine (l02Named 0 114 _).mono ?_
          rintro e wr ⟨rfl, hbr⟩
          rw [nm0r]
          have hkr := hk.below hbr hk.lt
          have HBr := Lib.hid (HB.out.trans (hbr.mono HB.out.size))
          obtain ⟨c0r, -⟩ := hkr.at_ 0 rfl
          obtain ⟨c1r, -⟩ := hkr.at_ 1 rfl
          obtain ⟨c2r, -⟩ := hkr.at_ 2 rfl
          obtain ⟨c3r, -⟩ := hkr.at_ 3 rfl
          go_wp2_with (go_at_call 26; refine (l01In _ _ _ _).mono ?_; rintro e w' ⟨rfl, rfl⟩)
          refine (l02Named 0 115 _).mono ?_
          rintro e ws ⟨rfl, hbs⟩
          rw [nm0s]
          have hks := hkr.below hbs hkr.lt
          have HBs := Lib.hid (HBr.out.trans (hbs.mono HBr.out.size))
          obtain ⟨c0s, -⟩ := hks.at_ 0 rfl
          obtain ⟨c1s, -⟩ := hks.at_ 1 rfl
          obtain ⟨c2s, -⟩ := hks.at_ 2 rfl
          obtain ⟨c3s, -⟩ := hks.at_ 3 rfl
          go_wp2_with (go_at_call 26; refine (l01In _ _ _ _).mono ?_; rintro e w' ⟨rfl, rfl⟩)
          refine (l02Named 0 110 _).mono ?_
          rintro e wn ⟨rfl, hbn⟩
          rw [nm0n]
          have hkn := hks.below hbn hks.lt
          have HBn := Lib.hid (HBs.out.trans (hbn.mono HBs.out.size))
          obtain ⟨c0n, -⟩ := hkn.at_ 0 rfl
          obtain ⟨c1n, -⟩ := hkn.at_ 1 rfl
          obtain ⟨c2n, -⟩ := hkn.at_ 2 rfl
          obtain ⟨c3n, -⟩ := hkn.at_ 3 rfl
          go_wp2_with (go_at_call 26; refine (l01In _ _ _ _).mono ?_; rintro e w' ⟨rfl, rfl⟩)
          go_ret
          exact ⟨ret_bool HF.out.symm, HBn.out⟩
        · have HF : Hid (insOk ⟨0, r, s, n⟩ cells size = false) := Lib.hid (by simp [insOk, nOkF, h1, h2, h4, h5, nm0r, nm0s, nm0n, show inB 0 0 8 = true from rfl, show inB 0 0 3 = true from rfl, show s ≠ 0 by simpa using zs])
          go_enter Tryz.func27, Tryz.ntmps27
          go_wp2_with (go_at_call 26; refine (l01In _ _ _ _).mono ?_; rintro e w' ⟨rfl, rfl⟩)
          refine (l02Named 0 114 _).mono ?_
          rintro e wr ⟨rfl, hbr⟩
          rw [nm0r]
          have hkr := hk.below hbr hk.lt
          have HBr := Lib.hid (HB.out.trans (hbr.mono HB.out.size))
          obtain ⟨c0r, -⟩ := hkr.at_ 0 rfl
          obtain ⟨c1r, -⟩ := hkr.at_ 1 rfl
          obtain ⟨c2r, -⟩ := hkr.at_ 2 rfl
          obtain ⟨c3r, -⟩ := hkr.at_ 3 rfl
          go_wp2_with (go_at_call 26; refine (l01In _ _ _ _).mono ?_; rintro e w' ⟨rfl, rfl⟩)
          refine (l02Named 0 115 _).mono ?_
          rintro e ws ⟨rfl, hbs⟩
          rw [nm0s]
          have hks := hkr.below hbs hkr.lt
          have HBs := Lib.hid (HBr.out.trans (hbs.mono HBr.out.size))
          obtain ⟨c0s, -⟩ := hks.at_ 0 rfl
          obtain ⟨c1s, -⟩ := hks.at_ 1 rfl
          obtain ⟨c2s, -⟩ := hks.at_ 2 rfl
          obtain ⟨c3s, -⟩ := hks.at_ 3 rfl
          go_wp2_with (go_at_call 26; refine (l01In _ _ _ _).mono ?_; rintro e w' ⟨rfl, rfl⟩)
          go_ret
          exact ⟨ret_bool HF.out.symm, HBs.out⟩
      · cases zn : (n != (0 : Int))
        · have HF : Hid (insOk ⟨1, r, s, n⟩ cells size = true) := Lib.hid (by simp [insOk, nOkF, h1, h2, h4, h5, nm1r, nm1s, nm1n, show inB 1 0 8 = true from rfl, show inB 0 0 3 = true from rfl, show n = 0 by simpa using zn])
          go_enter Tryz.func27, Tryz.ntmps27
          go_wp2_with (go_at_call 26; refine (l01In _ _ _ _).mono ?_; rintro e w' ⟨rfl, rfl⟩)
          refine (l02Named 1 114 _).mono ?_
          rintro e wr ⟨rfl, hbr⟩
          rw [nm1r]
          have hkr := hk.below hbr hk.lt
          have HBr := Lib.hid (HB.out.trans (hbr.mono HB.out.size))
          obtain ⟨c0r, -⟩ := hkr.at_ 0 rfl
          obtain ⟨c1r, -⟩ := hkr.at_ 1 rfl
          obtain ⟨c2r, -⟩ := hkr.at_ 2 rfl
          obtain ⟨c3r, -⟩ := hkr.at_ 3 rfl
          go_wp2_with (go_at_call 26; refine (l01In _ _ _ _).mono ?_; rintro e w' ⟨rfl, rfl⟩)
          refine (l02Named 1 115 _).mono ?_
          rintro e ws ⟨rfl, hbs⟩
          rw [nm1s]
          have hks := hkr.below hbs hkr.lt
          have HBs := Lib.hid (HBr.out.trans (hbs.mono HBr.out.size))
          obtain ⟨c0s, -⟩ := hks.at_ 0 rfl
          obtain ⟨c1s, -⟩ := hks.at_ 1 rfl
          obtain ⟨c2s, -⟩ := hks.at_ 2 rfl
          obtain ⟨c3s, -⟩ := hks.at_ 3 rfl
          go_wp2_with (go_at_call 26; refine (l01In _ _ _ _).mono ?_; rintro e w' ⟨rfl, rfl⟩)
          refine (l02Named 1 110 _).mono ?_
          rintro e wn ⟨rfl, hbn⟩
          rw [nm1n]
          have hkn := hks.below hbn hks.lt
          have HBn := Lib.hid (HBs.out.trans (hbn.mono HBs.out.size))
          obtain ⟨c0n, -⟩ := hkn.at_ 0 rfl
          obtain ⟨c1n, -⟩ := hkn.at_ 1 rfl
          obtain ⟨c2n, -⟩ := hkn.at_ 2 rfl
          obtain ⟨c3n, -⟩ := hkn.at_ 3 rfl
          go_wp2_with (go_at_call 26; refine (l01In _ _ _ _).mono ?_; rintro e w' ⟨rfl, rfl⟩)
          go_ret
          exact ⟨ret_bool HF.out.symm, HBn.out⟩
        · have HF : Hid (insOk ⟨1, r, s, n⟩ cells size = false) := Lib.hid (by simp [insOk, nOkF, h1, h2, h4, h5, nm1r, nm1s, nm1n, show inB 1 0 8 = true from rfl, show inB 0 0 3 = true from rfl, show n ≠ 0 by simpa using zn])
          go_enter Tryz.func27, Tryz.ntmps27
          go_wp2_with (go_at_call 26; refine (l01In _ _ _ _).mono ?_; rintro e w' ⟨rfl, rfl⟩)
          refine (l02Named 1 114 _).mono ?_
          rintro e wr ⟨rfl, hbr⟩
          rw [nm1r]
          have hkr := hk.below hbr hk.lt
          have HBr := Lib.hid (HB.out.trans (hbr.mono HB.out.size))
          obtain ⟨c0r, -⟩ := hkr.at_ 0 rfl
          obtain ⟨c1r, -⟩ := hkr.at_ 1 rfl
          obtain ⟨c2r, -⟩ := hkr.at_ 2 rfl
          obtain ⟨c3r, -⟩ := hkr.at_ 3 rfl
          go_wp2_with (go_at_call 26; refine (l01In _ _ _ _).mono ?_; rintro e w' ⟨rfl, rfl⟩)
          refine (l02Named 1 115 _).mono ?_
          rintro e ws ⟨rfl, hbs⟩
          rw [nm1s]
          have hks := hkr.below hbs hkr.lt
          have HBs := Lib.hid (HBr.out.trans (hbs.mono HBr.out.size))
          obtain ⟨c0s, -⟩ := hks.at_ 0 rfl
          obtain ⟨c1s, -⟩ := hks.at_ 1 rfl
          obtain ⟨c2s, -⟩ := hks.at_ 2 rfl
          obtain ⟨c3s, -⟩ := hks.at_ 3 rfl
          go_wp2_with (go_at_call 26; refine (l01In _ _ _ _).mono ?_; rintro e w' ⟨rfl, rfl⟩)
          refine (l02Named 1 110 _).mono ?_
          rintro e wn ⟨rfl, hbn⟩
          rw [nm1n]
          have hkn := hks.below hbn hks.lt
          have HBn := Lib.hid (HBs.out.trans (hbn.mono HBs.out.size))
          obtain ⟨c0n, -⟩ := hkn.at_ 0 rfl
          obtain ⟨c1n, -⟩ := hkn.at_ 1 rfl
          obtain ⟨c2n, -⟩ := hkn.at_ 2 rfl
          obtain ⟨c3n, -⟩ := hkn.at_ 3 rfl
          go_wp2_with (go_at_call 26; refine (l01In _ _ _ _).mono ?_; rintro e w' ⟨rfl, rfl⟩)
          go_ret
          exact ⟨ret_bool HF.out.symm, HBn.out⟩
      · cases zs : (s != (0 : Int))
        · have HF : Hid (insOk ⟨2, r, s, n⟩ cells size = inB n 0 (cells - 1)) := Lib.hid (by simp [insOk, nOkF, h1, h2, h4, h5, nm2r, nm2s, nm2n, show inB 2 0 8 = true from rfl, show inB 0 0 3 = true from rfl, show s = 0 by simpa using zs])
          go_enter Tryz.func27, Tryz.ntmps27
          go_wp2_with (go_at_call 26; refine (l01In _ _ _ _).mono ?_; rintro e w' ⟨rfl, rfl⟩)
          refine (l02Named 2 114 _).mono ?_
          rintro e wr ⟨rfl, hbr⟩
          rw [nm2r]
          have hkr := hk.below hbr hk.lt
          have HBr := Lib.hid (HB.out.trans (hbr.mono HB.out.size))
          obtain ⟨c0r, -⟩ := hkr.at_ 0 rfl
          obtain ⟨c1r, -⟩ := hkr.at_ 1 rfl
          obtain ⟨c2r, -⟩ := hkr.at_ 2 rfl
          obtain ⟨c3r, -⟩ := hkr.at_ 3 rfl
          go_wp2_with (go_at_call 26; refine (l01In _ _ _ _).mono ?_; rintro e w' ⟨rfl, rfl⟩)
          refine (l02Named 2 115 _).mono ?_
          rintro e ws ⟨rfl, hbs⟩
          rw [nm2s]
          have hks := hkr.below hbs hkr.lt
          have HBs := Lib.hid (HBr.out.trans (hbs.mono HBr.out.size))
          obtain ⟨c0s, -⟩ := hks.at_ 0 rfl
          obtain ⟨c1s, -⟩ := hks.at_ 1 rfl
          obtain ⟨c2s, -⟩ := hks.at_ 2 rfl
          obtain ⟨c3s, -⟩ := hks.at_ 3 rfl
          go_wp2_with (go_at_call 26; refine (l01In _ _ _ _).mono ?_; rintro e w' ⟨rfl, rfl⟩)
          refine (l02Named 2 110 _).mono ?_
          rintro e wn ⟨rfl, hbn⟩
          rw [nm2n]
          have hkn := hks.below hbn hks.lt
          have HBn := Lib.hid (HBs.out.trans (hbn.mono HBs.out.size))
          obtain ⟨c0n, -⟩ := hkn.at_ 0 rfl
          obtain ⟨c1n, -⟩ := hkn.at_ 1 rfl
          obtain ⟨c2n, -⟩ := hkn.at_ 2 rfl
          obtain ⟨c3n, -⟩ := hkn.at_ 3 rfl
          go_wp2_with (go_at_call 26; refine (l01In _ _ _ _).mono ?_; rintro e w' ⟨rfl, rfl⟩)
          go_ret
          exact ⟨ret_bool HF.out.symm, HBn.out⟩
        · have HF : Hid (insOk ⟨2, r, s, n⟩ cells size = false) := Lib.hid (by simp [insOk, nOkF, h1, h2, h4, h5, nm2r, nm2s, nm2n, show inB 2 0 8 = true from rfl, show inB 0 0 3 = true from rfl, show s ≠ 0 by simpa using zs])
          go_enter Tryz.func27, Tryz.ntmps27
          go_wp2_with (go_at_call 26; refine (l01In _ _ _ _).mono ?_; rintro e w' ⟨rfl, rfl⟩)
          refine (l02Named 2 114 _).mono ?_
          rintro e wr ⟨rfl, hbr⟩
          rw [nm2r]
          have hkr := hk.below hbr hk.lt
          have HBr := Lib.hid (HB.out.trans (hbr.mono HB.out.size))
          obtain ⟨c0r, -⟩ := hkr.at_ 0 rfl
          obtain ⟨c1r, -⟩ := hkr.at_ 1 rfl
          obtain ⟨c2r, -⟩ := hkr.at_ 2 rfl
          obtain ⟨c3r, -⟩ := hkr.at_ 3 rfl
          go_wp2_with (go_at_call 26; refine (l01In _ _ _ _).mono ?_; rintro e w' ⟨rfl, rfl⟩)
          refine (l02Named 2 115 _).mono ?_
          rintro e ws ⟨rfl, hbs⟩
          rw [nm2s]
          have hks := hkr.below hbs hkr.lt
          have HBs := Lib.hid (HBr.out.trans (hbs.mono HBr.out.size))
          obtain ⟨c0s, -⟩ := hks.at_ 0 rfl
          obtain ⟨c1s, -⟩ := hks.at_ 1 rfl
          obtain ⟨c2s, -⟩ := hks.at_ 2 rfl
          obtain ⟨c3s, -⟩ := hks.at_ 3 rfl
          go_wp2_with (go_at_call 26; refine (l01In _ _ _ _).mono ?_; rintro e w' ⟨rfl, rfl⟩)
          go_ret
          exact ⟨ret_bool HF.out.symm, HBs.out⟩
      · cases zs : (s != (0 : Int))
        · have HF : Hid (insOk ⟨3, r, s, n⟩ cells size = inB n 0 (cells - 1)) := Lib.hid (by simp [insOk, nOkF, h1, h2, h4, h5, nm3r, nm3s, nm3n, show inB 3 0 8 = true from rfl, show inB 0 0 3 = true from rfl, show s = 0 by simpa using zs])
          go_enter Tryz.func27, Tryz.ntmps27
          go_wp2_with (go_at_call 26; refine (l01In _ _ _ _).mono ?_; rintro e w' ⟨rfl, rfl⟩)
          refine (l02Named 3 114 _).mono ?_
          rintro e wr ⟨rfl, hbr⟩
          rw [nm3r]
          have hkr := hk.below hbr hk.lt
          have HBr := Lib.hid (HB.out.trans (hbr.mono HB.out.size))
          obtain ⟨c0r, -⟩ := hkr.at_ 0 rfl
          obtain ⟨c1r, -⟩ := hkr.at_ 1 rfl
          obtain ⟨c2r, -⟩ := hkr.at_ 2 rfl
          obtain ⟨c3r, -⟩ := hkr.at_ 3 rfl
          go_wp2_with (go_at_call 26; refine (l01In _ _ _ _).mono ?_; rintro e w' ⟨rfl, rfl⟩)
          refine (l02Named 3 115 _).mono ?_
          rintro e ws ⟨rfl, hbs⟩
          rw [nm3s]
          have hks := hkr.below hbs hkr.lt
          have HBs := Lib.hid (HBr.out.trans (hbs.mono HBr.out.size))
          obtain ⟨c0s, -⟩ := hks.at_ 0 rfl
          obtain ⟨c1s, -⟩ := hks.at_ 1 rfl
          obtain ⟨c2s, -⟩ := hks.at_ 2 rfl
          obtain ⟨c3s, -⟩ := hks.at_ 3 rfl
          go_wp2_with (go_at_call 26; refine (l01In _ _ _ _).mono ?_; rintro e w' ⟨rfl, rfl⟩)
          refine (l02Named 3 110 _).mono ?_
          rintro e wn ⟨rfl, hbn⟩
          rw [nm3n]
          have hkn := hks.below hbn hks.lt
          have HBn := Lib.hid (HBs.out.trans (hbn.mono HBs.out.size))
          obtain ⟨c0n, -⟩ := hkn.at_ 0 rfl
          obtain ⟨c1n, -⟩ := hkn.at_ 1 rfl
          obtain ⟨c2n, -⟩ := hkn.at_ 2 rfl
          obtain ⟨c3n, -⟩ := hkn.at_ 3 rfl
          go_wp2_with (go_at_call 26; refine (l01In _ _ _ _).mono ?_; rintro e w' ⟨rfl, rfl⟩)
          go_ret
          exact ⟨ret_bool HF.out.symm, HBn.out⟩
        · have HF : Hid (insOk ⟨3, r, s, n⟩ cells size = false) := Lib.hid (by simp [insOk, nOkF, h1, h2, h4, h5, nm3r, nm3s, nm3n, show inB 3 0 8 = true from rfl, show inB 0 0 3 = true from rfl, show s ≠ 0 by simpa using zs])
          go_enter Tryz.func27, Tryz.ntmps27
          go_wp2_with (go_at_call 26; refine (l01In _ _ _ _).mono ?_; rintro e w' ⟨rfl, rfl⟩)
          refine (l02Named 3 114 _).mono ?_
          rintro e wr ⟨rfl, hbr⟩
          rw [nm3r]
          have hkr := hk.below hbr hk.lt
          have HBr := Lib.hid (HB.out.trans (hbr.mono HB.out.size))
          obtain ⟨c0r, -⟩ := hkr.at_ 0 rfl
          obtain ⟨c1r, -⟩ := hkr.at_ 1 rfl
          obtain ⟨c2r, -⟩ := hkr.at_ 2 rfl
          obtain ⟨c3r, -⟩ := hkr.at_ 3 rfl
          go_wp2_with (go_at_call 26; refine (l01In _ _ _ _).mono ?_; rintro e w' ⟨rfl, rfl⟩)
          refine (l02Named 3 115 _).mono ?_
          rintro e ws ⟨rfl, hbs⟩
          rw [nm3s]
          have hks := hkr.below hbs hkr.lt
          have HBs := Lib.hid (HBr.out.trans (hbs.mono HBr.out.size))
          obtain ⟨c0s, -⟩ := hks.at_ 0 rfl
          obtain ⟨c1s, -⟩ := hks.at_ 1 rfl
          obtain ⟨c2s, -⟩ := hks.at_ 2 rfl
          obtain ⟨c3s, -⟩ := hks.at_ 3 rfl
          go_wp2_with (go_at_call 26; refine (l01In _ _ _ _).mono ?_; rintro e w' ⟨rfl, rfl⟩)
          go_ret
          exact ⟨ret_bool HF.out.symm, HBs.out⟩
      · cases zr : (r != (0 : Int))
        · cases zs : (s != (0 : Int))
          · cases zn : (n != (0 : Int))
            · have HF : Hid (insOk ⟨4, r, s, n⟩ cells size = true) := Lib.hid (by simp [insOk, nOkF, h1, h2, h4, h5, nm4r, nm4s, nm4n, show inB 4 0 8 = true from rfl, show inB 0 0 3 = true from rfl, show r = 0 by simpa using zr, show s = 0 by simpa using zs, show n = 0 by simpa using zn])
              go_enter Tryz.func27, Tryz.ntmps27
              go_wp2_with (go_at_call 26; refine (l01In _ _ _ _).mono ?_; rintro e w' ⟨rfl, rfl⟩)
              refine (l02Named 4 114 _).mono ?_
              rintro e wr ⟨rfl, hbr⟩
              rw [nm4r]
              have hkr := hk.below hbr hk.lt
              have HBr := Lib.hid (HB.out.trans (hbr.mono HB.out.size))
              obtain ⟨c0r, -⟩ := hkr.at_ 0 rfl
              obtain ⟨c1r, -⟩ := hkr.at_ 1 rfl
              obtain ⟨c2r, -⟩ := hkr.at_ 2 rfl
              obtain ⟨c3r, -⟩ := hkr.at_ 3 rfl
              go_wp2_with (go_at_call 26; refine (l01In _ _ _ _).mono ?_; rintro e w' ⟨rfl, rfl⟩)
              refine (l02Named 4 115 _).mono ?_
              rintro e ws ⟨rfl, hbs⟩
              rw [nm4s]
              have hks := hkr.below hbs hkr.lt
              have HBs := Lib.hid (HBr.out.trans (hbs.mono HBr.out.size))
              obtain ⟨c0s, -⟩ := hks.at_ 0 rfl
              obtain ⟨c1s, -⟩ := hks.at_ 1 rfl
              obtain ⟨c2s, -⟩ := hks.at_ 2 rfl
              obtain ⟨c3s, -⟩ := hks.at_ 3 rfl
              go_wp2_with (go_at_call 26; refine (l01In _ _ _ _).mono ?_; rintro e w' ⟨rfl, rfl⟩)
              refine (l02Named 4 110 _).mono ?_
              rintro e wn ⟨rfl, hbn⟩
              rw [nm4n]
              have hkn := hks.below hbn hks.lt
              have HBn := Lib.hid (HBs.out.trans (hbn.mono HBs.out.size))
              obtain ⟨c0n, -⟩ := hkn.at_ 0 rfl
              obtain ⟨c1n, -⟩ := hkn.at_ 1 rfl
              obtain ⟨c2n, -⟩ := hkn.at_ 2 rfl
              obtain ⟨c3n, -⟩ := hkn.at_ 3 rfl
              go_wp2_with (go_at_call 26; refine (l01In _ _ _ _).mono ?_; rintro e w' ⟨rfl, rfl⟩)
              go_ret
              exact ⟨ret_bool HF.out.symm, HBn.out⟩
            · have HF : Hid (insOk ⟨4, r, s, n⟩ cells size = false) := Lib.hid (by simp [insOk, nOkF, h1, h2, h4, h5, nm4r, nm4s, nm4n, show inB 4 0 8 = true from rfl, show inB 0 0 3 = true from rfl, show r = 0 by simpa using zr, show s = 0 by simpa using zs, show n ≠ 0 by simpa using zn])
              go_enter Tryz.func27, Tryz.ntmps27
              go_wp2_with (go_at_call 26; refine (l01In _ _ _ _).mono ?_; rintro e w' ⟨rfl, rfl⟩)
              refine (l02Named 4 114 _).mono ?_
              rintro e wr ⟨rfl, hbr⟩
              rw [nm4r]
              have hkr := hk.below hbr hk.lt
              have HBr := Lib.hid (HB.out.trans (hbr.mono HB.out.size))
              obtain ⟨c0r, -⟩ := hkr.at_ 0 rfl
              obtain ⟨c1r, -⟩ := hkr.at_ 1 rfl
              obtain ⟨c2r, -⟩ := hkr.at_ 2 rfl
              obtain ⟨c3r, -⟩ := hkr.at_ 3 rfl
              go_wp2_with (go_at_call 26; refine (l01In _ _ _ _).mono ?_; rintro e w' ⟨rfl, rfl⟩)
              refine (l02Named 4 115 _).mono ?_
              rintro e ws ⟨rfl, hbs⟩
              rw [nm4s]
              have hks := hkr.below hbs hkr.lt
              have HBs := Lib.hid (HBr.out.trans (hbs.mono HBr.out.size))
              obtain ⟨c0s, -⟩ := hks.at_ 0 rfl
              obtain ⟨c1s, -⟩ := hks.at_ 1 rfl
              obtain ⟨c2s, -⟩ := hks.at_ 2 rfl
              obtain ⟨c3s, -⟩ := hks.at_ 3 rfl
              go_wp2_with (go_at_call 26; refine (l01In _ _ _ _).mono ?_; rintro e w' ⟨rfl, rfl⟩)
              refine (l02Named 4 110 _).mono ?_
              rintro e wn ⟨rfl, hbn⟩
              rw [nm4n]
              have hkn := hks.below hbn hks.lt
              have HBn := Lib.hid (HBs.out.trans (hbn.mono HBs.out.size))
              obtain ⟨c0n, -⟩ := hkn.at_ 0 rfl
              obtain ⟨c1n, -⟩ := hkn.at_ 1 rfl
              obtain ⟨c2n, -⟩ := hkn.at_ 2 rfl
              obtain ⟨c3n, -⟩ := hkn.at_ 3 rfl
              go_wp2_with (go_at_call 26; refine (l01In _ _ _ _).mono ?_; rintro e w' ⟨rfl, rfl⟩)
              go_ret
              exact ⟨ret_bool HF.out.symm, HBn.out⟩
          · have HF : Hid (insOk ⟨4, r, s, n⟩ cells size = false) := Lib.hid (by simp [insOk, nOkF, h1, h2, h4, h5, nm4r, nm4s, nm4n, show inB 4 0 8 = true from rfl, show inB 0 0 3 = true from rfl, show r = 0 by simpa using zr, show s ≠ 0 by simpa using zs])
            go_enter Tryz.func27, Tryz.ntmps27
            go_wp2_with (go_at_call 26; refine (l01In _ _ _ _).mono ?_; rintro e w' ⟨rfl, rfl⟩)
            refine (l02Named 4 114 _).mono ?_
            rintro e wr ⟨rfl, hbr⟩
            rw [nm4r]
            have hkr := hk.below hbr hk.lt
            have HBr := Lib.hid (HB.out.trans (hbr.mono HB.out.size))
            obtain ⟨c0r, -⟩ := hkr.at_ 0 rfl
            obtain ⟨c1r, -⟩ := hkr.at_ 1 rfl
            obtain ⟨c2r, -⟩ := hkr.at_ 2 rfl
            obtain ⟨c3r, -⟩ := hkr.at_ 3 rfl
            go_wp2_with (go_at_call 26; refine (l01In _ _ _ _).mono ?_; rintro e w' ⟨rfl, rfl⟩)
            refine (l02Named 4 115 _).mono ?_
            rintro e ws ⟨rfl, hbs⟩
            rw [nm4s]
            have hks := hkr.below hbs hkr.lt
            have HBs := Lib.hid (HBr.out.trans (hbs.mono HBr.out.size))
            obtain ⟨c0s, -⟩ := hks.at_ 0 rfl
            obtain ⟨c1s, -⟩ := hks.at_ 1 rfl
            obtain ⟨c2s, -⟩ := hks.at_ 2 rfl
            obtain ⟨c3s, -⟩ := hks.at_ 3 rfl
            go_wp2_with (go_at_call 26; refine (l01In _ _ _ _).mono ?_; rintro e w' ⟨rfl, rfl⟩)
            go_ret
            exact ⟨ret_bool HF.out.symm, HBs.out⟩
        · have HF : Hid (insOk ⟨4, r, s, n⟩ cells size = false) := Lib.hid (by simp [insOk, nOkF, h1, h2, h4, h5, nm4r, nm4s, nm4n, show inB 4 0 8 = true from rfl, show inB 0 0 3 = true from rfl, show r ≠ 0 by simpa using zr])
          go_enter Tryz.func27, Tryz.ntmps27
          go_wp2_with (go_at_call 26; refine (l01In _ _ _ _).mono ?_; rintro e w' ⟨rfl, rfl⟩)
          refine (l02Named 4 114 _).mono ?_
          rintro e wr ⟨rfl, hbr⟩
          rw [nm4r]
          have hkr := hk.below hbr hk.lt
          have HBr := Lib.hid (HB.out.trans (hbr.mono HB.out.size))
          obtain ⟨c0r, -⟩ := hkr.at_ 0 rfl
          obtain ⟨c1r, -⟩ := hkr.at_ 1 rfl
          obtain ⟨c2r, -⟩ := hkr.at_ 2 rfl
          obtain ⟨c3r, -⟩ := hkr.at_ 3 rfl
          go_wp2_with (go_at_call 26; refine (l01In _ _ _ _).mono ?_; rintro e w' ⟨rfl, rfl⟩)
          go_ret
          exact ⟨ret_bool HF.out.symm, HBr.out⟩
      · have HF : Hid (insOk ⟨5, r, s, n⟩ cells size = inB n 0 (cells - 1)) := Lib.hid (by simp [insOk, nOkF, h1, h2, h4, h5, nm5r, nm5s, nm5n, show inB 5 0 8 = true from rfl, show inB 0 0 3 = true from rfl])
        go_enter Tryz.func27, Tryz.ntmps27
        go_wp2_with (go_at_call 26; refine (l01In _ _ _ _).mono ?_; rintro e w' ⟨rfl, rfl⟩)
        refine (l02Named 5 114 _).mono ?_
        rintro e wr ⟨rfl, hbr⟩
        rw [nm5r]
        have hkr := hk.below hbr hk.lt
        have HBr := Lib.hid (HB.out.trans (hbr.mono HB.out.size))
        obtain ⟨c0r, -⟩ := hkr.at_ 0 rfl
        obtain ⟨c1r, -⟩ := hkr.at_ 1 rfl
        obtain ⟨c2r, -⟩ := hkr.at_ 2 rfl
        obtain ⟨c3r, -⟩ := hkr.at_ 3 rfl
        go_wp2_with (go_at_call 26; refine (l01In _ _ _ _).mono ?_; rintro e w' ⟨rfl, rfl⟩)
        refine (l02Named 5 115 _).mono ?_
        rintro e ws ⟨rfl, hbs⟩
        rw [nm5s]
        have hks := hkr.below hbs hkr.lt
        have HBs := Lib.hid (HBr.out.trans (hbs.mono HBr.out.size))
        obtain ⟨c0s, -⟩ := hks.at_ 0 rfl
        obtain ⟨c1s, -⟩ := hks.at_ 1 rfl
        obtain ⟨c2s, -⟩ := hks.at_ 2 rfl
        obtain ⟨c3s, -⟩ := hks.at_ 3 rfl
        go_wp2_with (go_at_call 26; refine (l01In _ _ _ _).mono ?_; rintro e w' ⟨rfl, rfl⟩)
        refine (l02Named 5 110 _).mono ?_
        rintro e wn ⟨rfl, hbn⟩
        rw [nm5n]
        have hkn := hks.below hbn hks.lt
        have HBn := Lib.hid (HBs.out.trans (hbn.mono HBs.out.size))
        obtain ⟨c0n, -⟩ := hkn.at_ 0 rfl
        obtain ⟨c1n, -⟩ := hkn.at_ 1 rfl
        obtain ⟨c2n, -⟩ := hkn.at_ 2 rfl
        obtain ⟨c3n, -⟩ := hkn.at_ 3 rfl
        go_wp2_with (go_at_call 26; refine (l01In _ _ _ _).mono ?_; rintro e w' ⟨rfl, rfl⟩)
        go_ret
        exact ⟨ret_bool HF.out.symm, HBn.out⟩
      · cases zs : (s != (0 : Int))
        · have HF : Hid (insOk ⟨6, r, s, n⟩ cells size = inB n 0 size) := Lib.hid (by simp [insOk, nOkF, h1, h2, h4, h5, nm6r, nm6s, nm6n, show inB 6 0 8 = true from rfl, show inB 0 0 3 = true from rfl, show s = 0 by simpa using zs])
          go_enter Tryz.func27, Tryz.ntmps27
          go_wp2_with (go_at_call 26; refine (l01In _ _ _ _).mono ?_; rintro e w' ⟨rfl, rfl⟩)
          refine (l02Named 6 114 _).mono ?_
          rintro e wr ⟨rfl, hbr⟩
          rw [nm6r]
          have hkr := hk.below hbr hk.lt
          have HBr := Lib.hid (HB.out.trans (hbr.mono HB.out.size))
          obtain ⟨c0r, -⟩ := hkr.at_ 0 rfl
          obtain ⟨c1r, -⟩ := hkr.at_ 1 rfl
          obtain ⟨c2r, -⟩ := hkr.at_ 2 rfl
          obtain ⟨c3r, -⟩ := hkr.at_ 3 rfl
          go_wp2_with (go_at_call 26; refine (l01In _ _ _ _).mono ?_; rintro e w' ⟨rfl, rfl⟩)
          refine (l02Named 6 115 _).mono ?_
          rintro e ws ⟨rfl, hbs⟩
          rw [nm6s]
          have hks := hkr.below hbs hkr.lt
          have HBs := Lib.hid (HBr.out.trans (hbs.mono HBr.out.size))
          obtain ⟨c0s, -⟩ := hks.at_ 0 rfl
          obtain ⟨c1s, -⟩ := hks.at_ 1 rfl
          obtain ⟨c2s, -⟩ := hks.at_ 2 rfl
          obtain ⟨c3s, -⟩ := hks.at_ 3 rfl
          go_wp2_with (go_at_call 26; refine (l01In _ _ _ _).mono ?_; rintro e w' ⟨rfl, rfl⟩)
          refine (l02Named 6 110 _).mono ?_
          rintro e wn ⟨rfl, hbn⟩
          rw [nm6n]
          have hkn := hks.below hbn hks.lt
          have HBn := Lib.hid (HBs.out.trans (hbn.mono HBs.out.size))
          obtain ⟨c0n, -⟩ := hkn.at_ 0 rfl
          obtain ⟨c1n, -⟩ := hkn.at_ 1 rfl
          obtain ⟨c2n, -⟩ := hkn.at_ 2 rfl
          obtain ⟨c3n, -⟩ := hkn.at_ 3 rfl
          go_wp2_with (go_at_call 26; refine (l01In _ _ _ _).mono ?_; rintro e w' ⟨rfl, rfl⟩)
          go_ret
          exact ⟨ret_bool HF.out.symm, HBn.out⟩
        · have HF : Hid (insOk ⟨6, r, s, n⟩ cells size = false) := Lib.hid (by simp [insOk, nOkF, h1, h2, h4, h5, nm6r, nm6s, nm6n, show inB 6 0 8 = true from rfl, show inB 0 0 3 = true from rfl, show s ≠ 0 by simpa using zs])
          go_enter Tryz.func27, Tryz.ntmps27
          go_wp2_with (go_at_call 26; refine (l01In _ _ _ _).mono ?_; rintro e w' ⟨rfl, rfl⟩)
          refine (l02Named 6 114 _).mono ?_
          rintro e wr ⟨rfl, hbr⟩
          rw [nm6r]
          have hkr := hk.below hbr hk.lt
          have HBr := Lib.hid (HB.out.trans (hbr.mono HB.out.size))
          obtain ⟨c0r, -⟩ := hkr.at_ 0 rfl
          obtain ⟨c1r, -⟩ := hkr.at_ 1 rfl
          obtain ⟨c2r, -⟩ := hkr.at_ 2 rfl
          obtain ⟨c3r, -⟩ := hkr.at_ 3 rfl
          go_wp2_with (go_at_call 26; refine (l01In _ _ _ _).mono ?_; rintro e w' ⟨rfl, rfl⟩)
          refine (l02Named 6 115 _).mono ?_
          rintro e ws ⟨rfl, hbs⟩
          rw [nm6s]
          have hks := hkr.below hbs hkr.lt
          have HBs := Lib.hid (HBr.out.trans (hbs.mono HBr.out.size))
          obtain ⟨c0s, -⟩ := hks.at_ 0 rfl
          obtain ⟨c1s, -⟩ := hks.at_ 1 rfl
          obtain ⟨c2s, -⟩ := hks.at_ 2 rfl
          obtain ⟨c3s, -⟩ := hks.at_ 3 rfl
          go_wp2_with (go_at_call 26; refine (l01In _ _ _ _).mono ?_; rintro e w' ⟨rfl, rfl⟩)
          go_ret
          exact ⟨ret_bool HF.out.symm, HBs.out⟩
      · have HF : Hid (insOk ⟨7, r, s, n⟩ cells size = inB n 0 (cells - 1)) := Lib.hid (by simp [insOk, nOkF, h1, h2, h4, h5, nm7r, nm7s, nm7n, show inB 7 0 8 = true from rfl, show inB 0 0 3 = true from rfl])
        go_enter Tryz.func27, Tryz.ntmps27
        go_wp2_with (go_at_call 26; refine (l01In _ _ _ _).mono ?_; rintro e w' ⟨rfl, rfl⟩)
        refine (l02Named 7 114 _).mono ?_
        rintro e wr ⟨rfl, hbr⟩
        rw [nm7r]
        have hkr := hk.below hbr hk.lt
        have HBr := Lib.hid (HB.out.trans (hbr.mono HB.out.size))
        obtain ⟨c0r, -⟩ := hkr.at_ 0 rfl
        obtain ⟨c1r, -⟩ := hkr.at_ 1 rfl
        obtain ⟨c2r, -⟩ := hkr.at_ 2 rfl
        obtain ⟨c3r, -⟩ := hkr.at_ 3 rfl
        go_wp2_with (go_at_call 26; refine (l01In _ _ _ _).mono ?_; rintro e w' ⟨rfl, rfl⟩)
        refine (l02Named 7 115 _).mono ?_
        rintro e ws ⟨rfl, hbs⟩
        rw [nm7s]
        have hks := hkr.below hbs hkr.lt
        have HBs := Lib.hid (HBr.out.trans (hbs.mono HBr.out.size))
        obtain ⟨c0s, -⟩ := hks.at_ 0 rfl
        obtain ⟨c1s, -⟩ := hks.at_ 1 rfl
        obtain ⟨c2s, -⟩ := hks.at_ 2 rfl
        obtain ⟨c3s, -⟩ := hks.at_ 3 rfl
        go_wp2_with (go_at_call 26; refine (l01In _ _ _ _).mono ?_; rintro e w' ⟨rfl, rfl⟩)
        refine (l02Named 7 110 _).mono ?_
        rintro e wn ⟨rfl, hbn⟩
        rw [nm7n]
        have hkn := hks.below hbn hks.lt
        have HBn := Lib.hid (HBs.out.trans (hbn.mono HBs.out.size))
        obtain ⟨c0n, -⟩ := hkn.at_ 0 rfl
        obtain ⟨c1n, -⟩ := hkn.at_ 1 rfl
        obtain ⟨c2n, -⟩ := hkn.at_ 2 rfl
        obtain ⟨c3n, -⟩ := hkn.at_ 3 rfl
        go_wp2_with (go_at_call 26; refine (l01In _ _ _ _).mono ?_; rintro e w' ⟨rfl, rfl⟩)
        go_ret
        exact ⟨ret_bool HF.out.symm, HBn.out⟩
      · cases zn : (n != (0 : Int))
        · have HF : Hid (insOk ⟨8, r, s, n⟩ cells size = true) := Lib.hid (by simp [insOk, nOkF, h1, h2, h4, h5, nm8r, nm8s, nm8n, show inB 8 0 8 = true from rfl, show inB 0 0 3 = true from rfl, show n = 0 by simpa using zn])
          go_enter Tryz.func27, Tryz.ntmps27
          go_wp2_with (go_at_call 26; refine (l01In _ _ _ _).mono ?_; rintro e w' ⟨rfl, rfl⟩)
          refine (l02Named 8 114 _).mono ?_
          rintro e wr ⟨rfl, hbr⟩
          rw [nm8r]
          have hkr := hk.below hbr hk.lt
          have HBr := Lib.hid (HB.out.trans (hbr.mono HB.out.size))
          obtain ⟨c0r, -⟩ := hkr.at_ 0 rfl
          obtain ⟨c1r, -⟩ := hkr.at_ 1 rfl
          obtain ⟨c2r, -⟩ := hkr.at_ 2 rfl
          obtain ⟨c3r, -⟩ := hkr.at_ 3 rfl
          go_wp2_with (go_at_call 26; refine (l01In _ _ _ _).mono ?_; rintro e w' ⟨rfl, rfl⟩)
          refine (l02Named 8 115 _).mono ?_
          rintro e ws ⟨rfl, hbs⟩
          rw [nm8s]
          have hks := hkr.below hbs hkr.lt
          have HBs := Lib.hid (HBr.out.trans (hbs.mono HBr.out.size))
          obtain ⟨c0s, -⟩ := hks.at_ 0 rfl
          obtain ⟨c1s, -⟩ := hks.at_ 1 rfl
          obtain ⟨c2s, -⟩ := hks.at_ 2 rfl
          obtain ⟨c3s, -⟩ := hks.at_ 3 rfl
          go_wp2_with (go_at_call 26; refine (l01In _ _ _ _).mono ?_; rintro e w' ⟨rfl, rfl⟩)
          refine (l02Named 8 110 _).mono ?_
          rintro e wn ⟨rfl, hbn⟩
          rw [nm8n]
          have hkn := hks.below hbn hks.lt
          have HBn := Lib.hid (HBs.out.trans (hbn.mono HBs.out.size))
          obtain ⟨c0n, -⟩ := hkn.at_ 0 rfl
          obtain ⟨c1n, -⟩ := hkn.at_ 1 rfl
          obtain ⟨c2n, -⟩ := hkn.at_ 2 rfl
          obtain ⟨c3n, -⟩ := hkn.at_ 3 rfl
          go_wp2_with (go_at_call 26; refine (l01In _ _ _ _).mono ?_; rintro e w' ⟨rfl, rfl⟩)
          go_ret
          exact ⟨ret_bool HF.out.symm, HBn.out⟩
        · have HF : Hid (insOk ⟨8, r, s, n⟩ cells size = false) := Lib.hid (by simp [insOk, nOkF, h1, h2, h4, h5, nm8r, nm8s, nm8n, show inB 8 0 8 = true from rfl, show inB 0 0 3 = true from rfl, show n ≠ 0 by simpa using zn])
          go_enter Tryz.func27, Tryz.ntmps27
          go_wp2_with (go_at_call 26; refine (l01In _ _ _ _).mono ?_; rintro e w' ⟨rfl, rfl⟩)
          refine (l02Named 8 114 _).mono ?_
          rintro e wr ⟨rfl, hbr⟩
          rw [nm8r]
          have hkr := hk.below hbr hk.lt
          have HBr := Lib.hid (HB.out.trans (hbr.mono HB.out.size))
          obtain ⟨c0r, -⟩ := hkr.at_ 0 rfl
          obtain ⟨c1r, -⟩ := hkr.at_ 1 rfl
          obtain ⟨c2r, -⟩ := hkr.at_ 2 rfl
          obtain ⟨c3r, -⟩ := hkr.at_ 3 rfl
          go_wp2_with (go_at_call 26; refine (l01In _ _ _ _).mono ?_; rintro e w' ⟨rfl, rfl⟩)
          refine (l02Named 8 115 _).mono ?_
          rintro e ws ⟨rfl, hbs⟩
          rw [nm8s]
          have hks := hkr.below hbs hkr.lt
          have HBs := Lib.hid (HBr.out.trans (hbs.mono HBr.out.size))
          obtain ⟨c0s, -⟩ := hks.at_ 0 rfl
          obtain ⟨c1s, -⟩ := hks.at_ 1 rfl
          obtain ⟨c2s, -⟩ := hks.at_ 2 rfl
          obtain ⟨c3s, -⟩ := hks.at_ 3 rfl
          go_wp2_with (go_at_call 26; refine (l01In _ _ _ _).mono ?_; rintro e w' ⟨rfl, rfl⟩)
          refine (l02Named 8 110 _).mono ?_
          rintro e wn ⟨rfl, hbn⟩
          rw [nm8n]
          have hkn := hks.below hbn hks.lt
          have HBn := Lib.hid (HBs.out.trans (hbn.mono HBs.out.size))
          obtain ⟨c0n, -⟩ := hkn.at_ 0 rfl
          obtain ⟨c1n, -⟩ := hkn.at_ 1 rfl
          obtain ⟨c2n, -⟩ := hkn.at_ 2 rfl
          obtain ⟨c3n, -⟩ := hkn.at_ 3 rfl
          go_wp2_with (go_at_call 26; refine (l01In _ _ _ _).mono ?_; rintro e w' ⟨rfl, rfl⟩)
          go_ret
          exact ⟨ret_bool HF.out.symm, HBn.out⟩
end Go.Proofs.YtgbgjlmkmlhefaaGreatDoor
