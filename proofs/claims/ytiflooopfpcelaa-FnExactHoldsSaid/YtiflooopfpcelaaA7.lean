/- Contracts of Holds, of both sides. Condition: the machine and the atoms can be read. -/
import Derived.Test.YtiflooopfpcelaaA6
import Derived.Test.YtiflooopfpcelaaC3
namespace Go.Proofs.Ytiflooopfpcelaa
set_option maxRecDepth 20000
set_option linter.unusedSimpArgs false
set_option linter.unusedVariables false
open Go.ChangeShapes Go.WideShapes Go.ChangeAt Go.RowKit
set_option linter.unusedVariables false
def elF (xs : List Int) (i : Int) : Int := if inB i 0 (xs.length - 1) then xs.getD i.toNat 0 else 0
set_option maxHeartbeats 800000 in
theorem elementInt (v : Value) (xs : List Int) (i : Int) (w : World) (h : Rd w v 1 xs.length (ints xs)) :
    Calls Try.prog 194 #[v, .int .i64 i] w fun e w' => e = .returned (.tuple #[.int .i64 (elF xs i), .bool (inB i 0 (xs.length - 1))]) ∧ Below w.heap.size w w' := by
  obtain ⟨A, c, rfl, -, hnc, hc, hr⟩ := id h
  unfold maxLen at hc
  have hI := fun W : World => impl_indexOk i xs.length W
  cases hi : inB i 0 (xs.length - 1)
  · have HF : Hid (elF xs i = 0) := Lib.hid (by simp [elF, hi])
    rw [hi] at hI
    have HI := Lib.hid hI
    clear hI hi hr
    go_enter Try.func194, Try.ntmps194
    go_wp2_with (go_at_call 89; refine (HI.out _).mono ?_; rintro e w' ⟨rfl, rfl⟩)
    go_ret2
    exact ⟨by rw [HF.out]; rfl, Below.refl _ _⟩
  · have hib := inB_true hi
    obtain ⟨k, hk⟩ : ∃ k : Nat, i = k := ⟨i.toNat, by omega⟩
    subst hk
    have hkl : k < xs.length := by omega
    obtain ⟨b, o, rfl, hb, hcell⟩ := hr (by omega)
    obtain ⟨x, hxk, hx⟩ := int_at hcell hkl
    have HF : Hid (elF xs k = x) := Lib.hid (by
      unfold elF
      rw [hi, if_pos rfl, Int.toNat_natCast, List.getD_eq_getElem?_getD, hxk.out]
      rfl)
    have hkl' : (k : Int) < xs.length := by omega
    rw [hi] at hI
    have HI := Lib.hid hI
    clear hI hi hr hcell hib
    go_enter Try.func194, Try.ntmps194
    go_wp2_with (go_at_call 89; refine (HI.out _).mono ?_; rintro e w' ⟨rfl, rfl⟩)
    go_ret2
    exact ⟨by rw [HF.out]; rfl, Below.refl _ _⟩
theorem elZ (v : Value) (i : Int) (w : World) (hv : v = .slice none 0 0) :
    Calls Try.prog 194 #[v, .int .i64 i] w fun e w' => e = .returned (.tuple #[.int .i64 0, .bool false]) ∧ Below w.heap.size w w' := by
  subst hv
  have hn : inB i 0 (-1) = false := by simp [inB]; omega
  have := elementInt (.slice none 0 0) [] i w ⟨none, 0, rfl, rfl, Nat.le_refl _, by simp [maxLen], fun h => absurd h (by simp)⟩
  have e1 : inB i 0 (([] : List Int).length - 1) = false := hn
  have e2 : elF [] i = 0 := by unfold elF; rw [e1]; rfl
  rwa [e1, e2] at this
set_option maxHeartbeats 1600000 in
theorem elementTh_out (A : Option Addr) (n c : Nat) (i : Int) (w : World) (hi : inB i 0 (n - 1) = false) :
    Calls Try.prog 193 #[.slice A n c, .int .i64 i] w fun e w' => e = .returned (.tuple #[.agg #[.int .i64 0, .slice none 0 0, .slice none 0 0], .bool false]) ∧ Below w.heap.size w w' := by
  have hI := fun W : World => impl_indexOk i n W
  rw [hi] at hI
  have HI := Lib.hid hI
  have k0 := (Bk.new w #[.int .i64 0, .slice none 0 0, .slice none 0 0] 71).alloc (.cells #[.int .i64 0, .slice none 0 0, .slice none 0 0] 71)
  have k1 := Bk.new (w.alloc (.cells #[.int .i64 0, .slice none 0 0, .slice none 0 0] 71)) #[.int .i64 0, .slice none 0 0, .slice none 0 0] 71
  have hB := ((Below.refl w.heap.size w).alloc (Nat.le_refl _) (.cells #[.int .i64 0, .slice none 0 0, .slice none 0 0] 71)).alloc (by simp) (.cells #[.int .i64 0, .slice none 0 0, .slice none 0 0] 71)
  simp only [World.size_alloc] at k1
  obtain ⟨c0, d0⟩ := k0.at_ 0 (x := .int .i64 0) rfl
  obtain ⟨c1, d1⟩ := k0.at_ 1 (x := .slice none 0 0) rfl
  obtain ⟨c2, d2⟩ := k0.at_ 2 (x := .slice none 0 0) rfl
  obtain ⟨e0, -⟩ := k1.at_ 0 (x := .int .i64 0) rfl
  obtain ⟨e1, -⟩ := k1.at_ 1 (x := .slice none 0 0) rfl
  obtain ⟨e2, -⟩ := k1.at_ 2 (x := .slice none 0 0) rfl
  have kf := ((k0.set_ 0 (.int .i64 0)).set_ 1 (.slice none 0 0)).set_ 2 (.slice none 0 0)
  obtain ⟨r0, -⟩ := kf.at_ 0 (x := .int .i64 0) rfl
  obtain ⟨r1, -⟩ := kf.at_ 1 (x := .slice none 0 0) rfl
  obtain ⟨r2, -⟩ := kf.at_ 2 (x := .slice none 0 0) rfl
  have HE := Lib.hid hB
  clear hI hi kf hB k0 k1
  go_enter Try.func193, Try.ntmps193
  go_wp2_with (go_at_call 89; refine (HI.out _).mono ?_; rintro e w' ⟨rfl, rfl⟩)
  exact bodyPost_ret (v := .tuple #[.agg #[.int .i64 0, .slice none 0 0, .slice none 0 0], .bool false]) (by simp [results, Try.results193, go_sem, r0, r1, r2]) rfl ⟨rfl, HE.out⟩
set_option maxHeartbeats 1600000 in
theorem elementTh_in (b o n c k : Nat) (pc : Int) (Av Af : Option Addr) (nv cv nf cf : Nat) (w : World) (hk : k < n) (hx0 : w.cell? ⟨b, o + k * 3, none⟩ = some (.int .i64 pc)) (hx1 : w.cell? ⟨b, o + k * 3 + 1, none⟩ = some (.slice Av nv cv)) (hx2 : w.cell? ⟨b, o + k * 3 + 2, none⟩ = some (.slice Af nf cf)) :
    Calls Try.prog 193 #[.slice (some ⟨b, o, none⟩) n c, .int .i64 k] w fun e w' => e = .returned (.tuple #[.agg #[.int .i64 pc, .slice Av nv cv, .slice Af nf cf], .bool true]) ∧ Below w.heap.size w w' := by
  have hI := fun W : World => impl_indexOk k n W
  have hi : inB k 0 (n - 1) = true := by simp [inB]; omega
  rw [hi] at hI
  have HI := Lib.hid hI
  have lb := World.block_lt_of_cell? w ⟨b, o + k * 3, none⟩ hx0
  have hkl' : (k : Int) < n := by omega
  have k0 := Bk.new w #[.int .i64 0, .slice none 0 0, .slice none 0 0] 71
  have hB := (Below.refl w.heap.size w).alloc (Nat.le_refl _) (.cells #[.int .i64 0, .slice none 0 0, .slice none 0 0] 71)
  obtain ⟨c0, d0⟩ := k0.at_ 0 (x := .int .i64 0) rfl
  obtain ⟨c1, d1⟩ := k0.at_ 1 (x := .slice none 0 0) rfl
  obtain ⟨c2, d2⟩ := k0.at_ 2 (x := .slice none 0 0) rfl
  have kf := ((k0.set_ 0 (.int .i64 pc)).set_ 1 (.slice Av nv cv)).set_ 2 (.slice Af nf cf)
  obtain ⟨r0, -⟩ := kf.at_ 0 (x := .int .i64 pc) rfl
  obtain ⟨r1, -⟩ := kf.at_ 1 (x := .slice Av nv cv) rfl
  obtain ⟨r2, -⟩ := kf.at_ 2 (x := .slice Af nf cf) rfl
  have HE := Lib.hid ((Below.refl w.heap.size w).alloc (Nat.le_refl _) (.cells #[.int .i64 pc, .slice Av nv cv, .slice Af nf cf] 71))
  clear hI hi kf hB k0
  go_enter Try.func193, Try.ntmps193
  go_wp2_with (go_at_call 89; refine (HI.out _).mono ?_; rintro e w' ⟨rfl, rfl⟩)
  exact bodyPost_ret (v := .tuple #[.agg #[.int .i64 pc, .slice Av nv cv, .slice Af nf cf], .bool true]) (by simp [results, Try.results193, go_sem, r0, r1, r2]) rfl ⟨rfl, HE.out⟩
def regB (M : Ma) (r s : Int) : Bool := inB r 0 (M.ths.length - 1) && inB s 0 ((thAt M r.toNat).v.length - 1)
def regV (M : Ma) (r s : Int) : Int := if inB r 0 (M.ths.length - 1) then elF (thAt M r.toNat).v s else 0
set_option maxHeartbeats 1600000 in
theorem impl_regValue (r s : Int) (mv tv : Value) (M : Ma) (w : World) (hm : RdMa w mv tv M) :
    Calls Try.prog 192 #[.agg #[.int .i64 r, .int .i64 s], .agg #[mv, tv]] w fun e w' => e = .returned (.tuple #[.int .i64 (regV M r s), .bool (regB M r s)]) ∧ Below w.heap.size w w' := by
  obtain ⟨A0, c0, B0, d0, rfl, rfl, -, hBd, -, hdc⟩ := id hm.slices
  have k0 := (Bk.new w #[.int .i64 r, .int .i64 s] 173).alloc (.cells #[.slice A0 M.mem.length c0, .slice B0 M.ths.length d0] 41)
  have k1 := Bk.new (w.alloc (.cells #[.int .i64 r, .int .i64 s] 173)) #[.slice A0 M.mem.length c0, .slice B0 M.ths.length d0] 41
  have hB0 := ((Below.refl w.heap.size w).alloc (Nat.le_refl _) (.cells #[.int .i64 r, .int .i64 s] 173)).alloc (by simp) (.cells #[.slice A0 M.mem.length c0, .slice B0 M.ths.length d0] 41)
  obtain ⟨W0, hW0⟩ : ∃ W0, W0 = (w.alloc (.cells #[.int .i64 r, .int .i64 s] 173)).alloc (.cells #[.slice A0 M.mem.length c0, .slice B0 M.ths.length d0] 41) := ⟨_, rfl⟩
  rw [← hW0] at k0 k1 hB0
  simp only [World.size_alloc] at k1
  have HW := Lib.hid hW0
  obtain ⟨x0, -⟩ := k0.at_ 0 (x := .int .i64 r) rfl
  obtain ⟨y1, -⟩ := k1.at_ 1 (x := .slice B0 M.ths.length d0) rfl
  have HB0 := Lib.hid hB0
  have HM := Lib.hid hm
  clear hW0
  cases hr : inB r 0 (M.ths.length - 1)
  · have HV : Hid (regV M r s = 0 ∧ regB M r s = false) := Lib.hid ⟨by simp [regV, hr], by simp [regB, hr]⟩
    have HC := Lib.hid (elementTh_out B0 M.ths.length d0 r W0 hr)
    clear hr
    go_enter Try.func192, Try.ntmps192
    go_wp2_with fail
    rw [← HW.out]
    try go_wp2_with fail
    refine HC.out.mono ?_
    rintro e w1 ⟨rfl, hb1⟩
    have k01 := (k0.below hb1 k0.lt).alloc (.cells #[.int .i64 0, .slice none 0 0, .slice none 0 0] 71)
    have kt := Bk.new w1 #[.int .i64 0, .slice none 0 0, .slice none 0 0] 71
    have hB1 := (HB0.out.trans (hb1.mono HB0.out.size)).alloc (HB0.out.trans (hb1.mono HB0.out.size)).size (.cells #[.int .i64 0, .slice none 0 0, .slice none 0 0] 71)
    have HB1 := Lib.hid hB1
    obtain ⟨z1, -⟩ := k01.at_ 1 (x := .int .i64 s) rfl
    obtain ⟨t1, -⟩ := kt.at_ 1 (x := .slice none 0 0) rfl
    clear x0 y1 hb1 hB1 k01 kt
    go_wp2_with fail
    refine (elZ _ s _ rfl).mono ?_
    rintro e w2 ⟨rfl, hb2⟩
    go_wp2_with fail
    go_ret2
    exact ⟨by rw [HV.out.1, HV.out.2]; rfl, HB1.out.trans (hb2.mono HB1.out.size)⟩
  · have hib := inB_true hr
    obtain ⟨k, hk⟩ : ∃ k : Nat, r = k := ⟨r.toNat, by omega⟩
    subst hk
    have hkl : k < M.ths.length := by omega
    obtain ⟨vsT, hvl, ⟨A', c', hAe, -, -, -, hrT⟩, hinT⟩ := HM.out.ths
    injection hAe with hAe1 _ hAe3
    subst hAe1 hAe3
    obtain ⟨bT, oT, rfl, hbT, hcT⟩ := hrT (by omega)
    obtain ⟨t, av, fv, HT, HP, q0, q1, q2⟩ := th_at hvl hcT hkl hB0 hbT
    obtain ⟨rv, rf⟩ := hinT k t (av, fv) HT.out HP.out
    obtain ⟨Av, cv, rfl, -⟩ := id rv
    obtain ⟨Af, cf, rfl, -⟩ := id rf
    have hth : thAt M k = t := by unfold thAt; rw [List.getD_eq_getElem?_getD, HT.out]; rfl
    have HV : Hid (regV M k s = elF t.v s ∧ regB M k s = inB s 0 (t.v.length - 1)) := Lib.hid ⟨by simp [regV, hr, hth], by simp [regB, hr, hth]⟩
    have HC := Lib.hid (elementTh_in bT oT M.ths.length d0 k t.pc Av Af t.v.length cv t.f.length cf W0 hkl q0 q1 q2)
    have HRV := Lib.hid rv
    clear hr hib hrT hinT hcT rv rf q0 q1 q2 hth
    go_enter Try.func192, Try.ntmps192
    go_wp2_with fail
    rw [← HW.out]
    try go_wp2_with fail
    refine HC.out.mono ?_
    rintro e w1 ⟨rfl, hb1⟩
    have k01 := (k0.below hb1 k0.lt).alloc (.cells #[.int .i64 t.pc, .slice Av t.v.length cv, .slice Af t.f.length cf] 71)
    have kt := Bk.new w1 #[.int .i64 t.pc, .slice Av t.v.length cv, .slice Af t.f.length cf] 71
    have hB1 := (HB0.out.trans (hb1.mono HB0.out.size)).alloc (HB0.out.trans (hb1.mono HB0.out.size)).size (.cells #[.int .i64 t.pc, .slice Av t.v.length cv, .slice Af t.f.length cf] 71)
    have HB1 := Lib.hid hB1
    obtain ⟨z1, -⟩ := k01.at_ 1 (x := .int .i64 s) rfl
    obtain ⟨t1, -⟩ := kt.at_ 1 (x := .slice Av t.v.length cv) rfl
    clear x0 y1 hb1 hB1 k01 kt
    go_wp2_with fail
    refine (elementInt _ t.v s _ (HRV.out.below HB1.out)).mono ?_
    rintro e w2 ⟨rfl, hb2⟩
    go_wp2_with fail
    go_ret2
    exact ⟨by rw [HV.out.1, HV.out.2]; rfl, HB1.out.trans (hb2.mono HB1.out.size)⟩
set_option maxHeartbeats 1600000 in
theorem impl_cellValue (s : Int) (mv tv : Value) (M : Ma) (w : World) (hm : RdMa w mv tv M) :
    Calls Try.prog 196 #[.agg #[.int .i64 s], .agg #[mv, tv]] w fun e w' => e = .returned (.tuple #[.int .i64 (elF M.mem s), .bool (inB s 0 (M.mem.length - 1))]) ∧ Below w.heap.size w w' := by
  obtain ⟨A0, c0, B0, d0, rfl, rfl, -⟩ := id hm.slices
  have hB0 := ((Below.refl w.heap.size w).alloc (Nat.le_refl _) (.cells #[.int .i64 s] 175)).alloc (by simp) (.cells #[.slice A0 M.mem.length c0, .slice B0 M.ths.length d0] 41)
  have HB0 := Lib.hid hB0
  have HM := Lib.hid hm.mem
  clear hB0 hm
  go_enter Try.func196, Try.ntmps196
  go_wp2_with fail
  refine (elementInt _ M.mem s _ (HM.out.below HB0.out)).mono ?_
  rintro e w1 ⟨rfl, hb1⟩
  go_wp2_with fail
  go_ret2
  exact ⟨rfl, HB0.out.trans (hb1.mono HB0.out.size)⟩
theorem atom_reg {M : Ma} {o r s n : Int} (h : o = 0) : atomHolds M ⟨o, r, s, n⟩ = (regB M r s && decide (regV M r s = n)) := by
  unfold atomHolds regB regV
  rw [if_pos h]
  simp only
  cases hr : inB r 0 (M.ths.length - 1)
  · rfl
  · cases hs : inB s 0 ((thAt M r.toNat).v.length - 1)
    · rfl
    · simp [elF, hs]
theorem atom_cell {M : Ma} {o r s n : Int} (h : o = 1) : atomHolds M ⟨o, r, s, n⟩ = (inB s 0 (M.mem.length - 1) && decide (elF M.mem s = n)) := by
  have h0 : ¬ o = 0 := by omega
  unfold atomHolds
  rw [if_neg h0, if_pos h]
  simp only
  cases hs : inB s 0 (M.mem.length - 1)
  · rfl
  · simp [elF, hs]
set_option maxHeartbeats 3200000 in
theorem impl_atomHolds (a : Ins) (mv tv : Value) (M : Ma) (w : World) (hm : RdMa w mv tv M) :
    Calls Try.prog 94 #[(Value.agg #[.int .i64 a.o, .int .i64 a.r, .int .i64 a.s, .int .i64 a.n]), .agg #[mv, tv]] w fun e w' => e = .returned (.bool (atomHolds M a)) ∧ Below w.heap.size w w' := by
  obtain ⟨o, r, s, n⟩ := a
  obtain ⟨A0, c0, B0, d0, rfl, rfl, -⟩ := id hm.slices
  have hm0 : ∀ w : World, (method 128 173 (.agg #[.int .i64 r, .int .i64 s]) "loop.example/g00712/impl.valueIn").run Try.prog w = .ok (192, .agg #[.int .i64 r, .int .i64 s]) w := fun _ => by kernel_rfl
  have hm1 : ∀ w : World, (method 128 175 (.agg #[.int .i64 s]) "loop.example/g00712/impl.valueIn").run Try.prog w = .ok (196, .agg #[.int .i64 s]) w := fun _ => by kernel_rfl
  have k00 := (Bk.new w #[.int .i64 o, .int .i64 r, .int .i64 s, .int .i64 n] 76).alloc (.cells #[.slice A0 M.mem.length c0, .slice B0 M.ths.length d0] 41)
  have k01 := Bk.new (w.alloc (.cells #[.int .i64 o, .int .i64 r, .int .i64 s, .int .i64 n] 76)) #[.slice A0 M.mem.length c0, .slice B0 M.ths.length d0] 41
  have hB0 := ((Below.refl w.heap.size w).alloc (Nat.le_refl _) (.cells #[.int .i64 o, .int .i64 r, .int .i64 s, .int .i64 n] 76)).alloc (by simp) (.cells #[.slice A0 M.mem.length c0, .slice B0 M.ths.length d0] 41)
  simp only [World.size_alloc] at k01
  have HM := Lib.hid hm
  have HP := Lib.hid (fun W : World => impl_placeOf ⟨o, r, s, n⟩ W)
  have HB0 := Lib.hid hB0
  obtain ⟨c0', -⟩ := k00.at_ 0 (x := .int .i64 o) rfl
  obtain ⟨c1, -⟩ := k00.at_ 1 (x := .int .i64 r) rfl
  obtain ⟨c2, -⟩ := k00.at_ 2 (x := .int .i64 s) rfl
  obtain ⟨c3, -⟩ := k00.at_ 3 (x := .int .i64 n) rfl
  clear hm hB0
  by_cases hk : o = 0 ∨ o = 1
  · have hP := fun W => HP.out W
    rw [show knownB ⟨o, r, s, n⟩ = true by simp [knownB]; exact hk] at hP
    obtain ⟨pl, hpl⟩ : ∃ pl, placeV ⟨o, r, s, n⟩ = pl := ⟨_, rfl⟩
    rw [hpl] at hP
    obtain ⟨V, E, hE1, hE2⟩ : ∃ (V : Int) (E : Bool), atomHolds M ⟨o, r, s, n⟩ = (E && decide (V = n)) ∧ ((pl = .iface 173 (.agg #[.int .i64 r, .int .i64 s]) ∧ ∀ W : World, Below w.heap.size w W → Calls Try.prog 192 #[.agg #[.int .i64 r, .int .i64 s], .agg #[.slice A0 M.mem.length c0, .slice B0 M.ths.length d0]] W fun e w' => e = .returned (.tuple #[.int .i64 V, .bool E]) ∧ Below W.heap.size W w') ∨
        (pl = .iface 175 (.agg #[.int .i64 s]) ∧ ∀ W : World, Below w.heap.size w W → Calls Try.prog 196 #[.agg #[.int .i64 s], .agg #[.slice A0 M.mem.length c0, .slice B0 M.ths.length d0]] W fun e w' => e = .returned (.tuple #[.int .i64 V, .bool E]) ∧ Below W.heap.size W w')) := by
      rcases hk with h0 | h1
      · exact ⟨_, _, atom_reg h0, .inl ⟨by rw [← hpl]; simp [placeV, h0], fun W hW => impl_regValue r s _ _ M W (HM.out.below hW)⟩⟩
      · exact ⟨_, _, atom_cell h1, .inr ⟨by rw [← hpl]; simp [placeV, h1], fun W hW => impl_cellValue s _ _ M W (HM.out.below hW)⟩⟩
    have HP2 := Lib.hid hP
    have HE1 := Lib.hid hE1
    clear hP hk hE1 HP hpl
    rcases hE2 with ⟨rfl, hE2⟩ | ⟨rfl, hE2⟩
    all_goals
      have HE2 := Lib.hid hE2
      clear hE2
      go_enter Try.func94, Try.ntmps94
      go_wp2_with fail
      refine (HP2.out _).mono ?_
      rintro e w1 ⟨rfl, hb1⟩
      have k10 := k00.below hb1 k00.lt
      have k11 := k01.below hb1 k01.lt
      have HB1 := Lib.hid (HB0.out.trans (hb1.mono HB0.out.size))
      clear c0' c1 c2 c3 hb1
      obtain ⟨p0, -⟩ := k11.at_ 0 (x := .slice A0 M.mem.length c0) rfl
      obtain ⟨p1, -⟩ := k11.at_ 1 (x := .slice B0 M.ths.length d0) rfl
      cases E
      · have HV : Hid (atomHolds M ⟨o, r, s, n⟩ = false) := Lib.hid (by rw [HE1.out]; rfl)
        go_wp2_with fail
        refine (HE2.out _ HB1.out).mono ?_
        rintro e w4 ⟨rfl, hb4⟩
        go_wp2_with fail
        go_ret
        exact ⟨ret_bool HV.out.symm, HB1.out.trans (hb4.mono HB1.out.size)⟩
      · have HV : Hid (atomHolds M ⟨o, r, s, n⟩ = (V == n)) := Lib.hid (by rw [HE1.out]; rfl)
        go_wp2_with fail
        refine (HE2.out _ HB1.out).mono ?_
        rintro e w4 ⟨rfl, hb4⟩
        have k40 := k10.below hb4 k10.lt
        obtain ⟨c3, -⟩ := k40.at_ 3 (x := .int .i64 n) rfl
        go_wp2_with fail
        go_ret
        exact ⟨ret_bool HV.out.symm, HB1.out.trans (hb4.mono HB1.out.size)⟩
  · have HV : Hid (atomHolds M ⟨o, r, s, n⟩ = false) := Lib.hid (by
      have ho0 : o ≠ 0 := fun h => hk (.inl h)
      have ho1 : o ≠ 1 := fun h => hk (.inr h)
      simp [atomHolds, ho0, ho1])
    have hP := fun W => HP.out W
    rw [show knownB ⟨o, r, s, n⟩ = false by simp [knownB]; omega] at hP
    have HP2 := Lib.hid hP
    clear hP hk HP
    go_enter Try.func94, Try.ntmps94
    go_wp2_with fail
    refine (HP2.out _).mono ?_
    rintro e w1 ⟨rfl, hb1⟩
    go_wp2_with fail
    go_ret
    exact ⟨ret_bool HV.out.symm, HB0.out.trans (hb1.mono HB0.out.size)⟩
theorem atom_at {w wr : World} {b o k : Nat} {xs : List Ins} (hc : ∀ j u, (flc xs)[j]? = some u → w.cell? ⟨b, o + j, none⟩ = some u) (h : k < xs.length) {B : Nat} (hB : Below B w wr) (hb : b < B) :
    ∃ x, Hid (xs[k]? = some x) ∧ wr.cell? ⟨b, o + k * 4, none⟩ = some (.int .i64 x.o) ∧ wr.cell? ⟨b, o + k * 4 + 1, none⟩ = some (.int .i64 x.r) ∧ wr.cell? ⟨b, o + k * 4 + 2, none⟩ = some (.int .i64 x.s) ∧ wr.cell? ⟨b, o + k * 4 + 3, none⟩ = some (.int .i64 x.n) :=
  ins_at (fun j u hu => (hB.cell (p := ⟨b, o + j, none⟩) hb).trans (hc j u hu)) h
set_option maxHeartbeats 3200000 in
theorem impl_Holds (mv tv v : Value) (M : Ma) (xs : List Ins) (w : World) (hm : RdMa w mv tv M) (h : Rd w v 4 xs.length (flc xs)) :
    Calls Try.prog 47 #[.agg #[mv, tv], v] w fun e w' => e = .returned (.bool (holdsF M xs)) ∧ Below w.heap.size w w' := by
  obtain ⟨A0, c0, B0, d0, rfl, rfl, -⟩ := id hm.slices
  obtain ⟨A, c, rfl, -, hnc, hc, hr⟩ := id h
  unfold maxLen at hc
  have k0 := Bk.new w #[.slice A0 M.mem.length c0, .slice B0 M.ths.length d0] 41
  have hB0 := (Below.refl w.heap.size w).alloc (Nat.le_refl _) (.cells #[.slice A0 M.mem.length c0, .slice B0 M.ths.length d0] 41)
  have HM := Lib.hid hm
  have HRR := Lib.hid hr
  clear hm h hr
  by_cases hlen : (8 : Int) < xs.length
  · have HV : Hid (holdsF M xs = false) := Lib.hid (holdsF_big (by omega))
    go_enter Try.func47, Try.ntmps47
    go_wp2_with fail
    go_ret
    exact ⟨ret_bool HV.out.symm, hB0⟩
  · have HV : Hid (holdsF M xs = xs.all (atomHolds M)) := Lib.hid (holdsF_of (by omega))
    go_enter Try.func47, Try.ntmps47
    go_wp2_with fail
    go_loopw [12] (fun i wr => ∃ k : Nat, k ≤ xs.length ∧ i = .int .i64 k ∧ Hid ((xs.take k).all (atomHolds M) = true) ∧ Below w.heap.size w wr ∧ Bk wr w.heap.size #[.slice A0 M.mem.length c0, .slice B0 M.ths.length d0] 41) (fun i _ => xs.length - (intOf i).toNat)
    case atStart => exact ⟨0, Nat.zero_le _, rfl, Lib.hid (by simp), hB0, k0⟩
    case round =>
      obtain ⟨k, hk, rfl, HA, hB, km⟩ := hrel
      clear hB0 k0
      by_cases hlt : k < xs.length
      · obtain ⟨b, o, rfl, hb, hcell⟩ := HRR.out (by omega)
        obtain ⟨x, HX, x0, x1, x2, x3⟩ := atom_at hcell hlt hB hb
        have hBa := hB.alloc hB.size (.cells #[.int .i64 x.o, .int .i64 x.r, .int .i64 x.s, .int .i64 x.n] 76)
        have kma := km.alloc (.cells #[.int .i64 x.o, .int .i64 x.r, .int .i64 x.s, .int .i64 x.n] 76)
        have ka := Bk.new wr #[.int .i64 x.o, .int .i64 x.r, .int .i64 x.s, .int .i64 x.n] 76
        have hC := impl_atomHolds x _ _ M _ (HM.out.below hBa)
        have HBa := Lib.hid hBa
        obtain ⟨y0, -⟩ := kma.at_ 0 (x := .slice A0 M.mem.length c0) rfl
        obtain ⟨y1, -⟩ := kma.at_ 1 (x := .slice B0 M.ths.length d0) rfl
        clear hcell hBa
        cases hh : atomHolds M x
        · have HN : Hid (xs.all (atomHolds M) = false) := Lib.hid (allN_false HX.out hh)
          rw [hh] at hC
          have HC := Lib.hid hC
          clear hC hh
          go_wp2_with fail
          refine HC.out.mono ?_
          rintro e w4 ⟨rfl, hb4⟩
          go_wp2_with fail
          go_ret
          exact ⟨ret_bool (HV.out.trans HN.out).symm, HBa.out.trans (hb4.mono HBa.out.size)⟩
        · have HN := Lib.hid (allN_snoc HA.out HX.out hh)
          rw [hh] at hC
          have HC := Lib.hid hC
          clear hC hh
          go_wp2_with fail
          refine HC.out.mono ?_
          rintro e w4 ⟨rfl, hb4⟩
          have km4 := kma.below hb4 kma.lt
          have HB4 := Lib.hid (HBa.out.trans (hb4.mono HBa.out.size))
          clear kma y0 y1 hb4
          go_wp2_with fail
          exact ⟨⟨k + 1, by omega, by go_num, HN, HB4.out, km4⟩, by simp [intOf]; omega⟩
      · obtain rfl : k = xs.length := by omega
        have HN := HA.out
        rw [List.take_length] at HN
        have HN := Lib.hid HN
        go_wp2_with fail
        go_ret
        exact ⟨ret_bool (HV.out.trans HN.out).symm, hB⟩
set_option maxHeartbeats 6400000 in
theorem spec_Holds (mv tv v : Value) (M : Ma) (xs : List Ins) (w : World) (hm : RdMa w mv tv M) (h : Rd w v 4 xs.length (flc xs)) :
    Calls Try.prog 45 #[.agg #[mv, tv], v] w fun e w' => e = .returned (.bool (holdsF M xs)) ∧ Below w.heap.size w w' := by
  obtain ⟨A0, c0, B0, d0, rfl, rfl, hAc, hBd, hcc, hdc⟩ := id hm.slices
  obtain ⟨A, c, rfl, -, hnc, hc, hr⟩ := id h
  unfold maxLen at hc
  have k0 := Bk.new w #[.slice A0 M.mem.length c0, .slice B0 M.ths.length d0] 41
  have hB0 := (Below.refl w.heap.size w).alloc (Nat.le_refl _) (.cells #[.slice A0 M.mem.length c0, .slice B0 M.ths.length d0] 41)
  have HM := Lib.hid hm
  have HRR := Lib.hid hr
  have hw1 : IntKind.i64.wrap ((M.ths.length : Int) - 1) = (M.ths.length : Int) - 1 := IntWalk.i64_in _ (by omega)
  have hw2 : IntKind.i64.wrap ((M.mem.length : Int) - 1) = (M.mem.length : Int) - 1 := IntWalk.i64_in _ (by omega)
  clear hm h hr
  by_cases hlen : (8 : Int) < xs.length
  · have HV : Hid (holdsF M xs = false) := Lib.hid (holdsF_big (by omega))
    go_enter Try.func45, Try.ntmps45
    go_wp2_with fail
    go_ret
    exact ⟨ret_bool HV.out.symm, hB0⟩
  · have HV : Hid (holdsF M xs = xs.all (atomHolds M)) := Lib.hid (holdsF_of (by omega))
    go_enter Try.func45, Try.ntmps45
    go_wp2_with fail
    go_loopw [5] (fun i wr => ∃ k : Nat, k ≤ xs.length ∧ i = .int .i64 k ∧ Hid ((xs.take k).all (atomHolds M) = true) ∧ Below w.heap.size w wr ∧ Bk wr w.heap.size #[.slice A0 M.mem.length c0, .slice B0 M.ths.length d0] 41) (fun i _ => xs.length - (intOf i).toNat)
    case atStart => exact ⟨0, Nat.zero_le _, rfl, Lib.hid (by simp), hB0, k0⟩
    case round =>
      obtain ⟨k, hk, rfl, HA, hB, km⟩ := hrel
      clear hB0 k0
      by_cases hlt : k < xs.length
      · obtain ⟨b, o, rfl, hb, hcell⟩ := HRR.out (by omega)
        obtain ⟨⟨xo, xr, xS, xn⟩, HX, x0, x1, x2, x3⟩ := atom_at hcell hlt hB hb
        dsimp only at x0 x1 x2 x3
        obtain ⟨W2, hW2⟩ : ∃ W2, W2 = wr.alloc (.cells #[.int .i64 xo, .int .i64 xr, .int .i64 xS, .int .i64 xn] 76) := ⟨_, rfl⟩
        have hBa := hB.alloc hB.size (.cells #[.int .i64 xo, .int .i64 xr, .int .i64 xS, .int .i64 xn] 76)
        have kma := km.alloc (.cells #[.int .i64 xo, .int .i64 xr, .int .i64 xS, .int .i64 xn] 76)
        have ka := Bk.new wr #[.int .i64 xo, .int .i64 xr, .int .i64 xS, .int .i64 xn] 76
        rw [← hW2] at hBa kma ka
        have HBa := Lib.hid hBa
        have HW2 := Lib.hid hW2
        have P0 := Past.cell ka.lt (ka.at_ 1 (x := .int .i64 xr) rfl).1
        have P1 := Past.cell ka.lt (ka.at_ 2 (x := .int .i64 xS) rfl).1
        have P2 := Past.cell ka.lt (ka.at_ 3 (x := .int .i64 xn) rfl).1
        have P3 := Past.cell kma.lt (kma.at_ 0 (x := .slice A0 M.mem.length c0) rfl).1
        have P4 := Past.cell kma.lt (kma.at_ 1 (x := .slice B0 M.ths.length d0) rfl).1
        clear hcell hBa hW2 ka
        by_cases h0 : xo = 0
        · have hAt : atomHolds M ⟨xo, xr, xS, xn⟩ = (inB xr 0 (M.ths.length - 1) && inB xS 0 ((thAt M xr.toNat).v.length - 1) && decide ((thAt M xr.toNat).v.getD xS.toNat 0 = xn)) := by unfold atomHolds; rw [if_pos h0]
          subst h0
          cases hin : inB xr 0 (M.ths.length - 1)
          · have HIT : Hid (∀ W : World, Calls Try.prog 53 #[.int .i64 xr, .int .i64 0, .int .i64 (M.ths.length - 1)] W fun e w' => e = .returned (.bool false) ∧ Below W.heap.size W w') := Lib.hid fun W => by have hq := toB (l01In xr 0 (M.ths.length - 1) W); rw [hin] at hq; exact hq
            have HN : Hid (xs.all (atomHolds M) = false) := Lib.hid (allN_false HX.out (by rw [hAt, hin]; rfl))
            clear hin hAt
            go_wp2_with fail
            rw [← HW2.out]
            refine wp_region_past (by kernel_rfl) (by kernel_rfl) ?_
            repeat (go_big_quiet_step (first | (go_at_call_of 53 (Value.int .i64 xr : Value); exact Calls.past_of (HIT.out _))))
            refine wpQuiet_nil ?_
            intro _ hw'
            obtain ⟨pq, rfl⟩ := hw'
            clear P0 P1 P2 P3 P4
            go_wp2_with fail
            go_ret
            exact ⟨ret_bool (HV.out.trans HN.out).symm, HBa.out.trans (pq.hb.mono HBa.out.size)⟩
          · have hib := inB_true hin
            obtain ⟨j, hj⟩ : ∃ j : Nat, xr = j := ⟨xr.toNat, by omega⟩
            subst hj
            have hjl : j < M.ths.length := by omega
            have HIT : Hid (∀ W : World, Calls Try.prog 53 #[.int .i64 j, .int .i64 0, .int .i64 (M.ths.length - 1)] W fun e w' => e = .returned (.bool true) ∧ Below W.heap.size W w') := Lib.hid fun W => by have hq := toB (l01In j 0 (M.ths.length - 1) W); rw [hin] at hq; exact hq
            obtain ⟨vsT, hvl, ⟨A', c', hAe, -, -, -, hrT⟩, hinT⟩ := HM.out.ths
            injection hAe with hAe1 _ hAe3
            subst hAe1 hAe3
            obtain ⟨bT, oT, rfl, hbT, hcT⟩ := hrT (by omega)
            obtain ⟨t, av, fv, HT, HP, q0, q1, q2⟩ := th_at hvl hcT hjl HBa.out hbT
            obtain ⟨rv, rf⟩ := hinT j t (av, fv) HT.out HP.out
            obtain ⟨Av, cv, rfl, -, hvc, hvm, hrv⟩ := id rv
            unfold maxLen at hvm
            have hth : thAt M j = t := by unfold thAt; rw [List.getD_eq_getElem?_getD, HT.out]; rfl
            have hw3 : IntKind.i64.wrap ((t.v.length : Int) - 1) = (t.v.length : Int) - 1 := IntWalk.i64_in _ (by omega)
            have P6 := Past.cell (Nat.lt_of_lt_of_le hbT HBa.out.size) q1
            have hjl' : (j : Int) < M.ths.length := by omega
            rw [Int.toNat_natCast, hth, hin] at hAt
            clear hin hib hrT hinT hcT rf q0 q1 q2 hth rv
            cases hinX : inB xS 0 (t.v.length - 1)
            · have HIX : Hid (∀ W : World, Calls Try.prog 53 #[.int .i64 xS, .int .i64 0, .int .i64 (t.v.length - 1)] W fun e w' => e = .returned (.bool false) ∧ Below W.heap.size W w') := Lib.hid fun W => by have hq := toB (l01In xS 0 (t.v.length - 1) W); rw [hinX] at hq; exact hq
              have HN : Hid (xs.all (atomHolds M) = false) := Lib.hid (allN_false HX.out (by rw [hAt, hinX]; rfl))
              clear hinX hAt hrv
              go_wp2_with fail
              rw [← HW2.out]
              refine wp_region_past (by kernel_rfl) (by kernel_rfl) ?_
              repeat (go_big_quiet_step (first | (go_at_call_of 53 (Value.int .i64 j : Value); exact Calls.past_of (HIT.out _)) | (go_at_call_of 53 (Value.int .i64 xS : Value); exact Calls.past_of (HIX.out _))))
              refine wpQuiet_nil ?_
              intro _ hw'
              obtain ⟨pq, rfl⟩ := hw'
              clear P0 P1 P2 P3 P4 P6
              go_wp2_with fail
              go_ret
              exact ⟨ret_bool (HV.out.trans HN.out).symm, HBa.out.trans (pq.hb.mono HBa.out.size)⟩
            · have hibX := inB_true hinX
              obtain ⟨i, hi⟩ : ∃ i : Nat, xS = i := ⟨xS.toNat, by omega⟩
              subst hi
              have hil : i < t.v.length := by omega
              have HIX : Hid (∀ W : World, Calls Try.prog 53 #[.int .i64 i, .int .i64 0, .int .i64 (t.v.length - 1)] W fun e w' => e = .returned (.bool true) ∧ Below W.heap.size W w') := Lib.hid fun W => by have hq := toB (l01In i 0 (t.v.length - 1) W); rw [hinX] at hq; exact hq
              obtain ⟨bv, ov, rfl, hbv, hcv⟩ := hrv (by omega)
              obtain ⟨y, hyk, hy⟩ := int_at hcv hil
              have P7 := Past.cell (Nat.lt_of_lt_of_le hbv HBa.out.size) ((HBa.out.cell (p := ⟨bv, ov + i, none⟩) hbv).trans hy)
              have hil' : (i : Int) < t.v.length := by omega
              have hgd : t.v.getD i 0 = y := by rw [List.getD_eq_getElem?_getD, hyk.out]; rfl
              rw [hinX, Int.toNat_natCast, hgd] at hAt
              clear hinX hibX hcv hy hgd hrv
              by_cases hq : y = xn
              · have e1 : (y != xn) = false := by simp [hq]
                have HN := Lib.hid (allN_snoc HA.out HX.out (show atomHolds M ⟨0, j, i, xn⟩ = true by rw [hAt]; simp [hq]))
                clear hq hAt
                go_wp2_with fail
                rw [← HW2.out]
                refine wp_region_past (by kernel_rfl) (by kernel_rfl) ?_
                repeat (go_big_quiet_step (first | (go_at_call_of 53 (Value.int .i64 j : Value); exact Calls.past_of (HIT.out _)) | (go_at_call_of 53 (Value.int .i64 i : Value); exact Calls.past_of (HIX.out _))))
                refine wpQuiet_nil ?_
                intro _ hw'
                obtain ⟨pq, rfl⟩ := hw'
                have HF := Lib.hid (And.intro (HBa.out.trans (pq.hb.mono HBa.out.size)) (kma.below pq.hb kma.lt))
                clear P0 P1 P2 P3 P4 P6 P7 kma
                go_wp2_with fail
                exact ⟨⟨k + 1, by omega, by go_num, HN, HF.out.1, HF.out.2⟩, by simp [intOf]; omega⟩
              · have e1 : (y != xn) = true := by simp [hq]
                have HN : Hid (xs.all (atomHolds M) = false) := Lib.hid (allN_false HX.out (by rw [hAt]; simp [hq]))
                clear hq hAt
                go_wp2_with fail
                rw [← HW2.out]
                refine wp_region_past (by kernel_rfl) (by kernel_rfl) ?_
                repeat (go_big_quiet_step (first | (go_at_call_of 53 (Value.int .i64 j : Value); exact Calls.past_of (HIT.out _)) | (go_at_call_of 53 (Value.int .i64 i : Value); exact Calls.past_of (HIX.out _))))
                refine wpQuiet_nil ?_
                intro _ hw'
                obtain ⟨pq, rfl⟩ := hw'
                clear P0 P1 P2 P3 P4 P6 P7
                go_wp2_with fail
                go_ret
                exact ⟨ret_bool (HV.out.trans HN.out).symm, HBa.out.trans (pq.hb.mono HBa.out.size)⟩
        · have e0 : (xo == (0 : Int)) = false := by simp [h0]
          by_cases h1 : xo = 1
          · have hAt : atomHolds M ⟨xo, xr, xS, xn⟩ = (inB xS 0 (M.mem.length - 1) && decide (M.mem.getD xS.toNat 0 = xn)) := by unfold atomHolds; rw [if_neg h0, if_pos h1]
            subst h1
            clear h0
            cases hinX : inB xS 0 (M.mem.length - 1)
            · have HIX : Hid (∀ W : World, Calls Try.prog 53 #[.int .i64 xS, .int .i64 0, .int .i64 (M.mem.length - 1)] W fun e w' => e = .returned (.bool false) ∧ Below W.heap.size W w') := Lib.hid fun W => by have hq := toB (l01In xS 0 (M.mem.length - 1) W); rw [hinX] at hq; exact hq
              have HN : Hid (xs.all (atomHolds M) = false) := Lib.hid (allN_false HX.out (by rw [hAt, hinX]; rfl))
              clear hinX hAt
              go_wp2_with fail
              rw [← HW2.out]
              refine wp_region_past (by kernel_rfl) (by kernel_rfl) ?_
              repeat (go_big_quiet_step (first | (go_at_call_of 53 (Value.int .i64 xS : Value); exact Calls.past_of (HIX.out _))))
              refine wpQuiet_nil ?_
              intro _ hw'
              obtain ⟨pq, rfl⟩ := hw'
              clear P0 P1 P2 P3 P4
              go_wp2_with fail
              go_ret
              exact ⟨ret_bool (HV.out.trans HN.out).symm, HBa.out.trans (pq.hb.mono HBa.out.size)⟩
            · have hibX := inB_true hinX
              obtain ⟨i, hi⟩ : ∃ i : Nat, xS = i := ⟨xS.toNat, by omega⟩
              subst hi
              have hil : i < M.mem.length := by omega
              have HIX : Hid (∀ W : World, Calls Try.prog 53 #[.int .i64 i, .int .i64 0, .int .i64 (M.mem.length - 1)] W fun e w' => e = .returned (.bool true) ∧ Below W.heap.size W w') := Lib.hid fun W => by have hq := toB (l01In i 0 (M.mem.length - 1) W); rw [hinX] at hq; exact hq
              obtain ⟨A', c', hAe, -, -, -, hrm⟩ := HM.out.mem
              injection hAe with hAe1 _ hAe3
              subst hAe1 hAe3
              obtain ⟨bv, ov, rfl, hbv, hcv⟩ := hrm (by omega)
              obtain ⟨y, hyk, hy⟩ := int_at hcv hil
              have P7 := Past.cell (Nat.lt_of_lt_of_le hbv HBa.out.size) ((HBa.out.cell (p := ⟨bv, ov + i, none⟩) hbv).trans hy)
              have hil' : (i : Int) < M.mem.length := by omega
              have hgd : M.mem.getD i 0 = y := by rw [List.getD_eq_getElem?_getD, hyk.out]; rfl
              rw [hinX, Int.toNat_natCast, hgd] at hAt
              clear hinX hibX hcv hy hgd hrm
              by_cases hq : y = xn
              · have e1 : (y != xn) = false := by simp [hq]
                have HN := Lib.hid (allN_snoc HA.out HX.out (show atomHolds M ⟨1, xr, i, xn⟩ = true by rw [hAt]; simp [hq]))
                clear hq hAt
                go_wp2_with fail
                rw [← HW2.out]
                refine wp_region_past (by kernel_rfl) (by kernel_rfl) ?_
                repeat (go_big_quiet_step (first | (go_at_call_of 53 (Value.int .i64 i : Value); exact Calls.past_of (HIX.out _))))
                refine wpQuiet_nil ?_
                intro _ hw'
                obtain ⟨pq, rfl⟩ := hw'
                have HF := Lib.hid (And.intro (HBa.out.trans (pq.hb.mono HBa.out.size)) (kma.below pq.hb kma.lt))
                clear P0 P1 P2 P3 P4 P7 kma
                go_wp2_with fail
                exact ⟨⟨k + 1, by omega, by go_num, HN, HF.out.1, HF.out.2⟩, by simp [intOf]; omega⟩
              · have e1 : (y != xn) = true := by simp [hq]
                have HN : Hid (xs.all (atomHolds M) = false) := Lib.hid (allN_false HX.out (by rw [hAt]; simp [hq]))
                clear hq hAt
                go_wp2_with fail
                rw [← HW2.out]
                refine wp_region_past (by kernel_rfl) (by kernel_rfl) ?_
                repeat (go_big_quiet_step (first | (go_at_call_of 53 (Value.int .i64 i : Value); exact Calls.past_of (HIX.out _))))
                refine wpQuiet_nil ?_
                intro _ hw'
                obtain ⟨pq, rfl⟩ := hw'
                clear P0 P1 P2 P3 P4 P7
                go_wp2_with fail
                go_ret
                exact ⟨ret_bool (HV.out.trans HN.out).symm, HBa.out.trans (pq.hb.mono HBa.out.size)⟩
          · have e1 : (xo == (1 : Int)) = false := by simp [h1]
            have HN : Hid (xs.all (atomHolds M) = false) := Lib.hid (allN_false HX.out (by unfold atomHolds; rw [if_neg h0, if_neg h1]))
            clear h0 h1 P0 P1 P2 P3 P4
            go_wp2_with fail
            go_ret
            exact ⟨ret_bool (HV.out.trans HN.out).symm, HW2.out ▸ HBa.out⟩
      · obtain rfl : k = xs.length := by omega
        have HN := HA.out
        rw [List.take_length] at HN
        have HN := Lib.hid HN
        go_wp2_with fail
        go_ret
        exact ⟨ret_bool (HV.out.trans HN.out).symm, hB⟩
end Go.Proofs.Ytiflooopfpcelaa
