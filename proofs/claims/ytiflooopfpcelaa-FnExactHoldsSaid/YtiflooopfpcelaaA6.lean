/- Contracts of chapter 6's atoms, of both sides: which place an atom looks at, whether it is well. Condition: the program can be read. -/
import Derived.Test.YtiflooopfpcelaaV8
import Derived.Test.YtiflooopfpcelaaI5
import Derived.Test.YtiflooopfpcelaaS2p
import Derived.Test.YtiflooopfpcelaaSteps
namespace Go.Proofs.Ytiflooopfpcelaa
set_option maxRecDepth 20000
set_option linter.unusedSimpArgs false
set_option linter.unusedVariables false
open Go.ChangeShapes Go.WideShapes Go.ChangeAt Go.RowKit
set_option linter.unusedVariables false
def placeV (a : Ins) : Value := if a.o = 0 then .iface 173 (.agg #[.int .i64 a.r, .int .i64 a.s]) else if a.o = 1 then .iface 175 (.agg #[.int .i64 a.s]) else .nilIface
def knownB (a : Ins) : Bool := a.o == 0 || a.o == 1
def strayB (a : Ins) : Bool := a.o == 1 && a.r != 0
set_option maxHeartbeats 800000 in
theorem impl_placeOf (a : Ins) (w : World) :
    Calls Try.prog 91 #[(Value.agg #[.int .i64 a.o, .int .i64 a.r, .int .i64 a.s, .int .i64 a.n])] w fun e w' => e = .returned (.tuple #[placeV a, .bool (knownB a)]) ∧ Below w.heap.size w w' := by
  obtain ⟨o, r, s, n⟩ := a
  have HB := Lib.hid ((Below.refl w.heap.size w).alloc (Nat.le_refl _) (.cells #[.int .i64 o, .int .i64 r, .int .i64 s, .int .i64 n] 76))
  by_cases h0 : o = 0
  · subst h0
    go_enter Try.func91, Try.ntmps91
    go_wp2_with fail
    go_ret2
    exact ⟨rfl, HB.out⟩
  · by_cases h1 : o = 1
    · subst h1
      clear h0
      go_enter Try.func91, Try.ntmps91
      go_wp2_with fail
      go_ret2
      exact ⟨rfl, HB.out⟩
    · have e0 : (o == (0 : Int)) = false := by simp [h0]
      have e1 : (o == (1 : Int)) = false := by simp [h1]
      have HV : Hid (placeV ⟨o, r, s, n⟩ = .nilIface ∧ knownB ⟨o, r, s, n⟩ = false) := Lib.hid ⟨by simp [placeV, h0, h1], by simp [knownB, h0, h1]⟩
      clear h0 h1
      go_enter Try.func91, Try.ntmps91
      go_wp2_with fail
      go_ret2
      exact ⟨by rw [HV.out.1, HV.out.2]; rfl, HB.out⟩
set_option maxHeartbeats 800000 in
theorem impl_stray (a : Ins) (w : World) :
    Calls Try.prog 92 #[(Value.agg #[.int .i64 a.o, .int .i64 a.r, .int .i64 a.s, .int .i64 a.n])] w fun e w' => e = .returned (.bool (strayB a)) ∧ Below w.heap.size w w' := by
  obtain ⟨o, r, s, n⟩ := a
  have HB := Lib.hid ((Below.refl w.heap.size w).alloc (Nat.le_refl _) (.cells #[.int .i64 o, .int .i64 r, .int .i64 s, .int .i64 n] 76))
  cases e1 : (o == (1 : Int))
  · have HV : Hid (strayB ⟨o, r, s, n⟩ = false) := Lib.hid (by simp [strayB, e1])
    go_enter Try.func92, Try.ntmps92
    go_wp2_with fail
    go_ret
    exact ⟨ret_bool HV.out.symm, HB.out⟩
  · have HV : Hid (strayB ⟨o, r, s, n⟩ = (r != 0)) := Lib.hid (by simp [strayB, e1])
    go_enter Try.func92, Try.ntmps92
    go_wp2_with fail
    go_ret
    exact ⟨ret_bool HV.out.symm, HB.out⟩
set_option maxHeartbeats 800000 in
theorem impl_regExists (r s pc : Int) (A : Option Addr) (n c : Nat) (w : World) :
    Calls Try.prog 191 #[.agg #[.int .i64 r, .int .i64 s], .agg #[.int .i64 pc, .slice A n c]] w fun e w' => e = .returned (.bool (inB r 0 (n - 1) && inB s 0 3)) ∧ Below w.heap.size w w' := by
  have HB := Lib.hid (((Below.refl w.heap.size w).alloc (Nat.le_refl _) (.cells #[.int .i64 r, .int .i64 s] 173)).alloc (by simp) (.cells #[.int .i64 pc, .slice A n c] 36))
  have hI := fun W : World => impl_indexOk r n W
  have HR := Lib.hid fun W : World => impl_registerOk s true W
  cases hr : inB r 0 (n - 1)
  · rw [hr] at hI
    have HI := Lib.hid hI
    clear hI hr
    go_enter Try.func191, Try.ntmps191
    go_wp2_with (go_at_call 89; refine (HI.out _).mono ?_; rintro e w' ⟨rfl, rfl⟩)
    go_ret
    exact ⟨rfl, HB.out⟩
  · rw [hr] at hI
    have HI := Lib.hid hI
    clear hI hr
    go_enter Try.func191, Try.ntmps191
    go_wp2_with (first | (go_at_call 89; refine (HI.out _).mono ?_; rintro e w' ⟨rfl, rfl⟩) | (go_at_call 157; refine (HR.out _).mono ?_; rintro e w' ⟨rfl, rfl⟩))
    go_ret
    exact ⟨rfl, HB.out⟩
set_option maxHeartbeats 800000 in
theorem impl_cellExists (s pc : Int) (v : Value) (w : World) (hv : ∃ A n c, v = .slice A n c) :
    Calls Try.prog 195 #[.agg #[.int .i64 s], .agg #[.int .i64 pc, v]] w fun e w' => e = .returned (.bool (inB s 0 (pc - 1))) ∧ Below w.heap.size w w' := by
  obtain ⟨A, n, c, rfl⟩ := hv
  have HB := Lib.hid (((Below.refl w.heap.size w).alloc (Nat.le_refl _) (.cells #[.int .i64 s] 175)).alloc (by simp) (.cells #[.int .i64 pc, .slice A n c] 36))
  go_enter Try.func195, Try.ntmps195
  go_wp2_with (go_at_call 89; refine (impl_indexOk _ _ _).mono ?_; rintro e w' ⟨rfl, rfl⟩)
  go_ret
  exact ⟨rfl, HB.out⟩
set_option maxHeartbeats 3200000 in
theorem impl_AtomOk (pv : Value) (a : Ins) (p : Pr) (w : World) (h : RdSS w pv p.x) :
    Calls Try.prog 43 #[(Value.agg #[.int .i64 a.o, .int .i64 a.r, .int .i64 a.s, .int .i64 a.n]), .agg #[.int .i64 p.c, pv]] w fun e w' => e = .returned (.bool (atomOkF a p)) ∧ Below w.heap.size w w' := by
  obtain ⟨o, r, s, n⟩ := a
  obtain ⟨vsp, ⟨A, c, rfl, -, -, -, -⟩, -⟩ := id h
  have hm0 : ∀ w : World, (method 128 173 (.agg #[.int .i64 r, .int .i64 s]) "loop.example/g00712/impl.existsIn").run Try.prog w = .ok (191, .agg #[.int .i64 r, .int .i64 s]) w := fun _ => by kernel_rfl
  have hm1 : ∀ w : World, (method 128 175 (.agg #[.int .i64 s]) "loop.example/g00712/impl.existsIn").run Try.prog w = .ok (195, .agg #[.int .i64 s]) w := fun _ => by kernel_rfl
  have k00 := (Bk.new w #[.int .i64 o, .int .i64 r, .int .i64 s, .int .i64 n] 76).alloc (.cells #[.int .i64 p.c, .slice A p.x.length c] 36)
  have k01 := Bk.new (w.alloc (.cells #[.int .i64 o, .int .i64 r, .int .i64 s, .int .i64 n] 76)) #[.int .i64 p.c, .slice A p.x.length c] 36
  have hB0 := ((Below.refl w.heap.size w).alloc (Nat.le_refl _) (.cells #[.int .i64 o, .int .i64 r, .int .i64 s, .int .i64 n] 76)).alloc (by simp) (.cells #[.int .i64 p.c, .slice A p.x.length c] 36)
  simp only [World.size_alloc] at k01
  have HH := Lib.hid h
  have HP := Lib.hid (fun W : World => impl_placeOf ⟨o, r, s, n⟩ W)
  have hS := fun W : World => impl_stray ⟨o, r, s, n⟩ W
  have HB0 := Lib.hid hB0
  clear h hB0
  have hV : atomOkF ⟨o, r, s, n⟩ p = (progOkF p && valB n && (if o = 0 then inB r 0 (p.x.length - 1) && inB s 0 3 else o == 1 && r == 0 && inB s 0 (p.c - 1))) := rfl
  by_cases hk : o = 0 ∨ o = 1
  · have hkn : knownB ⟨o, r, s, n⟩ = true := by simp [knownB]; exact hk
    have hP := fun W => HP.out W
    rw [hkn] at hP
    cases hst : strayB ⟨o, r, s, n⟩
    · rw [hst] at hS
      obtain ⟨pl, hpl⟩ : ∃ pl, placeV ⟨o, r, s, n⟩ = pl := ⟨_, rfl⟩
      obtain ⟨E, hE1, hE2⟩ : ∃ E : Bool, atomOkF ⟨o, r, s, n⟩ p = (progOkF p && valB n && E) ∧ ((pl = .iface 173 (.agg #[.int .i64 r, .int .i64 s]) ∧ ∀ W : World, Calls Try.prog 191 #[.agg #[.int .i64 r, .int .i64 s], .agg #[.int .i64 p.c, .slice A p.x.length c]] W fun e w' => e = .returned (.bool E) ∧ Below W.heap.size W w') ∨
          (pl = .iface 175 (.agg #[.int .i64 s]) ∧ ∀ W : World, Calls Try.prog 195 #[.agg #[.int .i64 s], .agg #[.int .i64 p.c, .slice A p.x.length c]] W fun e w' => e = .returned (.bool E) ∧ Below W.heap.size W w')) := by
        rcases hk with h0 | h1
        · subst h0
          exact ⟨inB r 0 (p.x.length - 1) && inB s 0 3, rfl, .inl ⟨hpl.symm, fun W => impl_regExists r s p.c A p.x.length c W⟩⟩
        · subst h1
          have hr0 : (r == (0 : Int)) = true := by simpa [strayB] using hst
          refine ⟨inB s 0 (p.c - 1), ?_, .inr ⟨hpl.symm, fun W => impl_cellExists s p.c _ W ⟨_, _, _, rfl⟩⟩⟩
          rw [hV]
          simp [hr0]
      rw [hpl] at hP
      have HP2 := Lib.hid hP
      have HS2 := Lib.hid hS
      have HE1 := Lib.hid hE1
      clear hP hS hV hkn hst hk hE1 HP hpl
      rcases hE2 with ⟨rfl, hE2⟩ | ⟨rfl, hE2⟩
      · have HE2 := Lib.hid hE2
        clear hE2
        obtain ⟨c0, -⟩ := k00.at_ 0 (x := .int .i64 o) rfl
        obtain ⟨c1, -⟩ := k00.at_ 1 (x := .int .i64 r) rfl
        obtain ⟨c2, -⟩ := k00.at_ 2 (x := .int .i64 s) rfl
        obtain ⟨c3, -⟩ := k00.at_ 3 (x := .int .i64 n) rfl
        obtain ⟨p0, -⟩ := k01.at_ 0 (x := .int .i64 p.c) rfl
        obtain ⟨p1, -⟩ := k01.at_ 1 (x := .slice A p.x.length c) rfl
        go_enter Try.func43, Try.ntmps43
        go_wp2_with fail
        refine (HP2.out _).mono ?_
        rintro e w1 ⟨rfl, hb1⟩
        have k10 := k00.below hb1 k00.lt
        have k11 := k01.below hb1 k01.lt
        have HB1 := Lib.hid (HB0.out.trans (hb1.mono HB0.out.size))
        clear c0 c1 c2 c3 p0 p1 hb1
        obtain ⟨c0, -⟩ := k10.at_ 0 (x := .int .i64 o) rfl
        obtain ⟨c1, -⟩ := k10.at_ 1 (x := .int .i64 r) rfl
        obtain ⟨c2, -⟩ := k10.at_ 2 (x := .int .i64 s) rfl
        obtain ⟨c3, -⟩ := k10.at_ 3 (x := .int .i64 n) rfl
        obtain ⟨p0, -⟩ := k11.at_ 0 (x := .int .i64 p.c) rfl
        obtain ⟨p1, -⟩ := k11.at_ 1 (x := .slice A p.x.length c) rfl
        have hC := impl_ProgOk _ p w1 (HH.out.below HB1.out)
        cases hok : progOkF p
        · have HV : Hid (atomOkF ⟨o, r, s, n⟩ p = false) := Lib.hid (by rw [HE1.out, hok]; rfl)
          rw [hok] at hC
          have HC := Lib.hid hC
          clear hC hok
          go_wp2_with fail
          refine HC.out.mono ?_
          rintro e w2 ⟨rfl, hb2⟩
          go_wp2_with fail
          go_ret
          exact ⟨ret_bool HV.out.symm, HB1.out.trans (hb2.mono HB1.out.size)⟩
        · have HOK := Lib.hid hok
          rw [hok] at hC
          have HC := Lib.hid hC
          clear hC hok
          go_wp2_with fail
          refine HC.out.mono ?_
          rintro e w2 ⟨rfl, hb2⟩
          have k20 := k10.below hb2 k10.lt
          have k21 := k11.below hb2 k11.lt
          have HB2 := Lib.hid (HB1.out.trans (hb2.mono HB1.out.size))
          clear c0 c1 c2 c3 p0 p1 hb2
          obtain ⟨c0, -⟩ := k20.at_ 0 (x := .int .i64 o) rfl
          obtain ⟨c1, -⟩ := k20.at_ 1 (x := .int .i64 r) rfl
          obtain ⟨c2, -⟩ := k20.at_ 2 (x := .int .i64 s) rfl
          obtain ⟨c3, -⟩ := k20.at_ 3 (x := .int .i64 n) rfl
          obtain ⟨p0, -⟩ := k21.at_ 0 (x := .int .i64 p.c) rfl
          obtain ⟨p1, -⟩ := k21.at_ 1 (x := .slice A p.x.length c) rfl
          go_wp2_with fail
          refine (HS2.out _).mono ?_
          rintro e w3 ⟨rfl, hb3⟩
          have k30 := k20.below hb3 k20.lt
          have k31 := k21.below hb3 k21.lt
          have HB3 := Lib.hid (HB2.out.trans (hb3.mono HB2.out.size))
          clear c0 c1 c2 c3 p0 p1 hb3
          obtain ⟨c0, -⟩ := k30.at_ 0 (x := .int .i64 o) rfl
          obtain ⟨c1, -⟩ := k30.at_ 1 (x := .int .i64 r) rfl
          obtain ⟨c2, -⟩ := k30.at_ 2 (x := .int .i64 s) rfl
          obtain ⟨c3, -⟩ := k30.at_ 3 (x := .int .i64 n) rfl
          obtain ⟨p0, -⟩ := k31.at_ 0 (x := .int .i64 p.c) rfl
          obtain ⟨p1, -⟩ := k31.at_ 1 (x := .slice A p.x.length c) rfl
          cases E
          · have HV : Hid (atomOkF ⟨o, r, s, n⟩ p = false) := Lib.hid (by rw [HE1.out]; simp)
            go_wp2_with fail
            refine (HE2.out _).mono ?_
            rintro e w4 ⟨rfl, hb4⟩
            go_wp2_with fail
            go_ret
            exact ⟨ret_bool HV.out.symm, HB3.out.trans (hb4.mono HB3.out.size)⟩
          · have HV : Hid (atomOkF ⟨o, r, s, n⟩ p = valB n) := Lib.hid (by rw [HE1.out, HOK.out]; simp)
            go_wp2_with fail
            refine (HE2.out _).mono ?_
            rintro e w4 ⟨rfl, hb4⟩
            have k40 := k30.below hb4 k30.lt
            have k41 := k31.below hb4 k31.lt
            have HB4 := Lib.hid (HB3.out.trans (hb4.mono HB3.out.size))
            clear c0 c1 c2 c3 p0 p1 hb4
            obtain ⟨c0, -⟩ := k40.at_ 0 (x := .int .i64 o) rfl
            obtain ⟨c1, -⟩ := k40.at_ 1 (x := .int .i64 r) rfl
            obtain ⟨c2, -⟩ := k40.at_ 2 (x := .int .i64 s) rfl
            obtain ⟨c3, -⟩ := k40.at_ 3 (x := .int .i64 n) rfl
            obtain ⟨p0, -⟩ := k41.at_ 0 (x := .int .i64 p.c) rfl
            obtain ⟨p1, -⟩ := k41.at_ 1 (x := .slice A p.x.length c) rfl
            go_wp2_with (go_at_call 93; refine (impl_valueOk _ _).mono ?_; rintro e w' ⟨rfl, rfl⟩)
            go_ret
            exact ⟨ret_bool HV.out.symm, HB4.out⟩
      · have HE2 := Lib.hid hE2
        clear hE2
        obtain ⟨c0, -⟩ := k00.at_ 0 (x := .int .i64 o) rfl
        obtain ⟨c1, -⟩ := k00.at_ 1 (x := .int .i64 r) rfl
        obtain ⟨c2, -⟩ := k00.at_ 2 (x := .int .i64 s) rfl
        obtain ⟨c3, -⟩ := k00.at_ 3 (x := .int .i64 n) rfl
        obtain ⟨p0, -⟩ := k01.at_ 0 (x := .int .i64 p.c) rfl
        obtain ⟨p1, -⟩ := k01.at_ 1 (x := .slice A p.x.length c) rfl
        go_enter Try.func43, Try.ntmps43
        go_wp2_with fail
        refine (HP2.out _).mono ?_
        rintro e w1 ⟨rfl, hb1⟩
        have k10 := k00.below hb1 k00.lt
        have k11 := k01.below hb1 k01.lt
        have HB1 := Lib.hid (HB0.out.trans (hb1.mono HB0.out.size))
        clear c0 c1 c2 c3 p0 p1 hb1
        obtain ⟨c0, -⟩ := k10.at_ 0 (x := .int .i64 o) rfl
        obtain ⟨c1, -⟩ := k10.at_ 1 (x := .int .i64 r) rfl
        obtain ⟨c2, -⟩ := k10.at_ 2 (x := .int .i64 s) rfl
        obtain ⟨c3, -⟩ := k10.at_ 3 (x := .int .i64 n) rfl
        obtain ⟨p0, -⟩ := k11.at_ 0 (x := .int .i64 p.c) rfl
        obtain ⟨p1, -⟩ := k11.at_ 1 (x := .slice A p.x.length c) rfl
        have hC := impl_ProgOk _ p w1 (HH.out.below HB1.out)
        cases hok : progOkF p
        · have HV : Hid (atomOkF ⟨o, r, s, n⟩ p = false) := Lib.hid (by rw [HE1.out, hok]; rfl)
          rw [hok] at hC
          have HC := Lib.hid hC
          clear hC hok
          go_wp2_with fail
          refine HC.out.mono ?_
          rintro e w2 ⟨rfl, hb2⟩
          go_wp2_with fail
          go_ret
          exact ⟨ret_bool HV.out.symm, HB1.out.trans (hb2.mono HB1.out.size)⟩
        · have HOK := Lib.hid hok
          rw [hok] at hC
          have HC := Lib.hid hC
          clear hC hok
          go_wp2_with fail
          refine HC.out.mono ?_
          rintro e w2 ⟨rfl, hb2⟩
          have k20 := k10.below hb2 k10.lt
          have k21 := k11.below hb2 k11.lt
          have HB2 := Lib.hid (HB1.out.trans (hb2.mono HB1.out.size))
          clear c0 c1 c2 c3 p0 p1 hb2
          obtain ⟨c0, -⟩ := k20.at_ 0 (x := .int .i64 o) rfl
          obtain ⟨c1, -⟩ := k20.at_ 1 (x := .int .i64 r) rfl
          obtain ⟨c2, -⟩ := k20.at_ 2 (x := .int .i64 s) rfl
          obtain ⟨c3, -⟩ := k20.at_ 3 (x := .int .i64 n) rfl
          obtain ⟨p0, -⟩ := k21.at_ 0 (x := .int .i64 p.c) rfl
          obtain ⟨p1, -⟩ := k21.at_ 1 (x := .slice A p.x.length c) rfl
          go_wp2_with fail
          refine (HS2.out _).mono ?_
          rintro e w3 ⟨rfl, hb3⟩
          have k30 := k20.below hb3 k20.lt
          have k31 := k21.below hb3 k21.lt
          have HB3 := Lib.hid (HB2.out.trans (hb3.mono HB2.out.size))
          clear c0 c1 c2 c3 p0 p1 hb3
          obtain ⟨c0, -⟩ := k30.at_ 0 (x := .int .i64 o) rfl
          obtain ⟨c1, -⟩ := k30.at_ 1 (x := .int .i64 r) rfl
          obtain ⟨c2, -⟩ := k30.at_ 2 (x := .int .i64 s) rfl
          obtain ⟨c3, -⟩ := k30.at_ 3 (x := .int .i64 n) rfl
          obtain ⟨p0, -⟩ := k31.at_ 0 (x := .int .i64 p.c) rfl
          obtain ⟨p1, -⟩ := k31.at_ 1 (x := .slice A p.x.length c) rfl
          cases E
          · have HV : Hid (atomOkF ⟨o, r, s, n⟩ p = false) := Lib.hid (by rw [HE1.out]; simp)
            go_wp2_with fail
            refine (HE2.out _).mono ?_
            rintro e w4 ⟨rfl, hb4⟩
            go_wp2_with fail
            go_ret
            exact ⟨ret_bool HV.out.symm, HB3.out.trans (hb4.mono HB3.out.size)⟩
          · have HV : Hid (atomOkF ⟨o, r, s, n⟩ p = valB n) := Lib.hid (by rw [HE1.out, HOK.out]; simp)
            go_wp2_with fail
            refine (HE2.out _).mono ?_
            rintro e w4 ⟨rfl, hb4⟩
            have k40 := k30.below hb4 k30.lt
            have k41 := k31.below hb4 k31.lt
            have HB4 := Lib.hid (HB3.out.trans (hb4.mono HB3.out.size))
            clear c0 c1 c2 c3 p0 p1 hb4
            obtain ⟨c0, -⟩ := k40.at_ 0 (x := .int .i64 o) rfl
            obtain ⟨c1, -⟩ := k40.at_ 1 (x := .int .i64 r) rfl
            obtain ⟨c2, -⟩ := k40.at_ 2 (x := .int .i64 s) rfl
            obtain ⟨c3, -⟩ := k40.at_ 3 (x := .int .i64 n) rfl
            obtain ⟨p0, -⟩ := k41.at_ 0 (x := .int .i64 p.c) rfl
            obtain ⟨p1, -⟩ := k41.at_ 1 (x := .slice A p.x.length c) rfl
            go_wp2_with (go_at_call 93; refine (impl_valueOk _ _).mono ?_; rintro e w' ⟨rfl, rfl⟩)
            go_ret
            exact ⟨ret_bool HV.out.symm, HB4.out⟩
    · have HV : Hid (atomOkF ⟨o, r, s, n⟩ p = false) := Lib.hid (by
        simp only [strayB, Bool.and_eq_true, beq_iff_eq, bne_iff_ne] at hst
        rw [hV, if_neg (by omega)]
        simp [hst.2])
      rw [hst] at hS
      have HS2 := Lib.hid hS
      have HP2 := Lib.hid hP
      clear hP hS hV hkn hst hk HP
      obtain ⟨c0, -⟩ := k00.at_ 0 (x := .int .i64 o) rfl
      obtain ⟨c1, -⟩ := k00.at_ 1 (x := .int .i64 r) rfl
      obtain ⟨c2, -⟩ := k00.at_ 2 (x := .int .i64 s) rfl
      obtain ⟨c3, -⟩ := k00.at_ 3 (x := .int .i64 n) rfl
      obtain ⟨p0, -⟩ := k01.at_ 0 (x := .int .i64 p.c) rfl
      obtain ⟨p1, -⟩ := k01.at_ 1 (x := .slice A p.x.length c) rfl
      go_enter Try.func43, Try.ntmps43
      go_wp2_with fail
      refine (HP2.out _).mono ?_
      rintro e w1 ⟨rfl, hb1⟩
      have k10 := k00.below hb1 k00.lt
      have k11 := k01.below hb1 k01.lt
      have HB1 := Lib.hid (HB0.out.trans (hb1.mono HB0.out.size))
      clear c0 c1 c2 c3 p0 p1 hb1
      obtain ⟨c0, -⟩ := k10.at_ 0 (x := .int .i64 o) rfl
      obtain ⟨c1, -⟩ := k10.at_ 1 (x := .int .i64 r) rfl
      obtain ⟨c2, -⟩ := k10.at_ 2 (x := .int .i64 s) rfl
      obtain ⟨c3, -⟩ := k10.at_ 3 (x := .int .i64 n) rfl
      obtain ⟨p0, -⟩ := k11.at_ 0 (x := .int .i64 p.c) rfl
      obtain ⟨p1, -⟩ := k11.at_ 1 (x := .slice A p.x.length c) rfl
      have hC := impl_ProgOk _ p w1 (HH.out.below HB1.out)
      cases hok : progOkF p
      all_goals
        rw [hok] at hC
        have HC := Lib.hid hC
        clear hC hok
        go_wp2_with fail
        refine HC.out.mono ?_
        rintro e w2 ⟨rfl, hb2⟩
      · go_wp2_with fail
        go_ret
        exact ⟨ret_bool HV.out.symm, HB1.out.trans (hb2.mono HB1.out.size)⟩
      · have k20 := k10.below hb2 k10.lt
        have k21 := k11.below hb2 k11.lt
        have HB2 := Lib.hid (HB1.out.trans (hb2.mono HB1.out.size))
        clear c0 c1 c2 c3 p0 p1 hb2
        obtain ⟨c0, -⟩ := k20.at_ 0 (x := .int .i64 o) rfl
        obtain ⟨c1, -⟩ := k20.at_ 1 (x := .int .i64 r) rfl
        obtain ⟨c2, -⟩ := k20.at_ 2 (x := .int .i64 s) rfl
        obtain ⟨c3, -⟩ := k20.at_ 3 (x := .int .i64 n) rfl
        obtain ⟨p0, -⟩ := k21.at_ 0 (x := .int .i64 p.c) rfl
        obtain ⟨p1, -⟩ := k21.at_ 1 (x := .slice A p.x.length c) rfl
        go_wp2_with fail
        refine (HS2.out _).mono ?_
        rintro e w3 ⟨rfl, hb3⟩
        go_wp2_with fail
        go_ret
        exact ⟨ret_bool HV.out.symm, HB2.out.trans (hb3.mono HB2.out.size)⟩
  · have hkn : knownB ⟨o, r, s, n⟩ = false := by simp [knownB]; omega
    have HV : Hid (atomOkF ⟨o, r, s, n⟩ p = false) := Lib.hid (by
      rw [hV, if_neg (by omega)]
      have : (o == (1 : Int)) = false := by simp; omega
      simp [this])
    have hP := fun W => HP.out W
    rw [hkn] at hP
    have HP2 := Lib.hid hP
    clear hP hS hV hkn hk HP
    obtain ⟨c0, -⟩ := k00.at_ 0 (x := .int .i64 o) rfl
    obtain ⟨c1, -⟩ := k00.at_ 1 (x := .int .i64 r) rfl
    obtain ⟨c2, -⟩ := k00.at_ 2 (x := .int .i64 s) rfl
    obtain ⟨c3, -⟩ := k00.at_ 3 (x := .int .i64 n) rfl
    obtain ⟨p0, -⟩ := k01.at_ 0 (x := .int .i64 p.c) rfl
    obtain ⟨p1, -⟩ := k01.at_ 1 (x := .slice A p.x.length c) rfl
    go_enter Try.func43, Try.ntmps43
    go_wp2_with fail
    refine (HP2.out _).mono ?_
    rintro e w1 ⟨rfl, hb1⟩
    go_wp2_with fail
    go_ret
    exact ⟨ret_bool HV.out.symm, HB0.out.trans (hb1.mono HB0.out.size)⟩
set_option maxHeartbeats 3200000 in
theorem spec_AtomOk (pv : Value) (a : Ins) (p : Pr) (w : World) (h : RdSS w pv p.x) :
    Calls Try.prog 41 #[(Value.agg #[.int .i64 a.o, .int .i64 a.r, .int .i64 a.s, .int .i64 a.n]), .agg #[.int .i64 p.c, pv]] w fun e w' => e = .returned (.bool (atomOkF a p)) ∧ Below w.heap.size w w' := by
  obtain ⟨o, r, s, n⟩ := a
  obtain ⟨vsp, ⟨A, c, rfl, -, hnc, hcm, -⟩, -⟩ := id h
  unfold maxLen at hcm
  have k00 := (Bk.new w #[.int .i64 o, .int .i64 r, .int .i64 s, .int .i64 n] 76).alloc (.cells #[.int .i64 p.c, .slice A p.x.length c] 36)
  have k01 := Bk.new (w.alloc (.cells #[.int .i64 o, .int .i64 r, .int .i64 s, .int .i64 n] 76)) #[.int .i64 p.c, .slice A p.x.length c] 36
  have hB0 := ((Below.refl w.heap.size w).alloc (Nat.le_refl _) (.cells #[.int .i64 o, .int .i64 r, .int .i64 s, .int .i64 n] 76)).alloc (by simp) (.cells #[.int .i64 p.c, .slice A p.x.length c] 36)
  simp only [World.size_alloc] at k01
  have hwr : IntKind.i64.wrap ((p.x.length : Int) - 1) = (p.x.length : Int) - 1 := IntWalk.i64_in _ (by omega)
  have hC := spec_ProgOk _ p _ (h.below hB0)
  have HB0 := Lib.hid hB0
  have hV : atomOkF ⟨o, r, s, n⟩ p = (progOkF p && valB n && (if o = 0 then inB r 0 (p.x.length - 1) && inB s 0 3 else o == 1 && r == 0 && inB s 0 (p.c - 1))) := rfl
  clear h hB0
  obtain ⟨c0, -⟩ := k00.at_ 0 (x := .int .i64 o) rfl
  obtain ⟨c1, -⟩ := k00.at_ 1 (x := .int .i64 r) rfl
  obtain ⟨c2, -⟩ := k00.at_ 2 (x := .int .i64 s) rfl
  obtain ⟨c3, -⟩ := k00.at_ 3 (x := .int .i64 n) rfl
  obtain ⟨p0, -⟩ := k01.at_ 0 (x := .int .i64 p.c) rfl
  obtain ⟨p1, -⟩ := k01.at_ 1 (x := .slice A p.x.length c) rfl
  cases hok : progOkF p
  · have HV : Hid (atomOkF ⟨o, r, s, n⟩ p = false) := Lib.hid (by rw [hV, hok]; rfl)
    rw [hok] at hC
    have HC := Lib.hid hC
    clear hC hok hV
    go_enter Try.func41, Try.ntmps41
    go_wp2_with fail
    refine HC.out.mono ?_
    rintro e w2 ⟨rfl, hb2⟩
    go_wp2_with fail
    go_ret
    exact ⟨ret_bool HV.out.symm, HB0.out.trans (hb2.mono HB0.out.size)⟩
  · have HOK := Lib.hid hok
    have hpl := progOk_len hok
    have hw2 : IntKind.i64.wrap (p.c - 1) = p.c - 1 := IntWalk.i64_in _ (by omega)
    rw [hok] at hC
    have HC := Lib.hid hC
    clear hC hok
    go_enter Try.func41, Try.ntmps41
    go_wp2_with fail
    refine HC.out.mono ?_
    rintro e w1 ⟨rfl, hb1⟩
    have k10 := k00.below hb1 k00.lt
    have k11 := k01.below hb1 k01.lt
    have HB1 := Lib.hid (HB0.out.trans (hb1.mono HB0.out.size))
    clear c0 c1 c2 c3 p0 p1 hb1
    obtain ⟨c0, -⟩ := k10.at_ 0 (x := .int .i64 o) rfl
    obtain ⟨c1, -⟩ := k10.at_ 1 (x := .int .i64 r) rfl
    obtain ⟨c2, -⟩ := k10.at_ 2 (x := .int .i64 s) rfl
    obtain ⟨c3, -⟩ := k10.at_ 3 (x := .int .i64 n) rfl
    obtain ⟨p0, -⟩ := k11.at_ 0 (x := .int .i64 p.c) rfl
    obtain ⟨p1, -⟩ := k11.at_ 1 (x := .slice A p.x.length c) rfl
    have hVv := fun W : World => l01Value n W
    cases hv : valB n
    · have HV : Hid (atomOkF ⟨o, r, s, n⟩ p = false) := Lib.hid (by rw [hV, hv]; simp)
      rw [hv] at hVv
      have HVv := Lib.hid hVv
      clear hVv hv hV
      go_wp2_with (go_at_call 55; refine (HVv.out _).mono ?_; rintro e w' ⟨rfl, rfl⟩)
      go_ret
      exact ⟨ret_bool HV.out.symm, HB1.out⟩
    · rw [hv] at hVv
      have HVv := Lib.hid hVv
      have HV : Hid (atomOkF ⟨o, r, s, n⟩ p = (if o = 0 then inB r 0 (p.x.length - 1) && inB s 0 3 else o == 1 && r == 0 && inB s 0 (p.c - 1))) := Lib.hid (by rw [hV, hv, HOK.out]; rfl)
      have hI1 := fun W : World => l01In r 0 (p.x.length - 1) W
      have HI2 := Lib.hid fun W : World => l01In s 0 3 W
      have HI3 := Lib.hid fun W : World => l01In s 0 (p.c - 1) W
      clear hVv hv hV
      by_cases h0 : o = 0
      · have HV2 : Hid (atomOkF ⟨o, r, s, n⟩ p = (inB r 0 (p.x.length - 1) && inB s 0 3)) := Lib.hid (by rw [HV.out, if_pos h0])
        have e0 : (o == (0 : Int)) = true := by simp [h0]
        clear h0 HV
        cases hr : inB r 0 (p.x.length - 1)
        · rw [hr] at hI1 HV2
          have HI1 := Lib.hid hI1
          clear hI1 hr
          go_wp2_with (first | (go_at_call 55; refine (HVv.out _).mono ?_; rintro e w' ⟨rfl, rfl⟩) | (go_at_call_of 53 (Value.int .i64 r : Value); refine (HI1.out _).mono ?_; rintro e w' ⟨rfl, rfl⟩))
          go_ret
          exact ⟨ret_bool HV2.out.symm, HB1.out⟩
        · rw [hr] at hI1 HV2
          have HI1 := Lib.hid hI1
          clear hI1 hr
          go_wp2_with (first | (go_at_call 55; refine (HVv.out _).mono ?_; rintro e w' ⟨rfl, rfl⟩) | (go_at_call_of 53 (Value.int .i64 r : Value); refine (HI1.out _).mono ?_; rintro e w' ⟨rfl, rfl⟩) | (go_at_call_of 53 (Value.int .i64 s : Value); refine (HI2.out _).mono ?_; rintro e w' ⟨rfl, rfl⟩))
          go_ret
          exact ⟨ret_bool HV2.out.symm, HB1.out⟩
      · have e0 : (o == (0 : Int)) = false := by simp [h0]
        have HV2 : Hid (atomOkF ⟨o, r, s, n⟩ p = (o == 1 && r == 0 && inB s 0 (p.c - 1))) := Lib.hid (by rw [HV.out, if_neg h0])
        clear h0 HV hI1
        cases e1 : (o == (1 : Int))
        · rw [e1] at HV2
          go_wp2_with (go_at_call 55; refine (HVv.out _).mono ?_; rintro e w' ⟨rfl, rfl⟩)
          go_ret
          exact ⟨ret_bool HV2.out.symm, HB1.out⟩
        · cases e2 : (r == (0 : Int))
          · rw [e1, e2] at HV2
            go_wp2_with (go_at_call 55; refine (HVv.out _).mono ?_; rintro e w' ⟨rfl, rfl⟩)
            go_ret
            exact ⟨ret_bool HV2.out.symm, HB1.out⟩
          · rw [e1, e2] at HV2
            go_wp2_with (first | (go_at_call 55; refine (HVv.out _).mono ?_; rintro e w' ⟨rfl, rfl⟩) | (go_at_call_of 53 (Value.int .i64 s : Value); refine (HI3.out _).mono ?_; rintro e w' ⟨rfl, rfl⟩))
            go_ret
            exact ⟨ret_bool HV2.out.symm, HB1.out⟩
end Go.Proofs.Ytiflooopfpcelaa
