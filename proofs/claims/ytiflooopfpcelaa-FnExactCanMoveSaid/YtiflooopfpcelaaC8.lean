/- Contracts of spec.CanMove and spec.Moves. Condition: the program and the machine can be read. -/
import Derived.Test.YtiflooopfpcelaaC7
import Derived.Test.YtiflooopfpcelaaC1
namespace Go.Proofs.Ytiflooopfpcelaa
set_option maxRecDepth 20000
set_option linter.unusedSimpArgs false
set_option linter.unusedVariables false
open Go.ChangeShapes Go.WideShapes Go.ChangeAt Go.RowKit
set_option maxHeartbeats 1600000 in
theorem spec_CanMove (v mv tv : Value) (p : Pr) (M : Ma) (m : Mv) (w : World) (h : RdSS w v p.x) (hm : RdMa w mv tv M) :
    Calls Try.prog 24 #[.agg #[.int .i64 p.c, v], .agg #[mv, tv], .agg #[.int .i64 m.t, .bool m.d]] w fun e w' => e = .returned (.bool (canMv p M m)) ∧ Below w.heap.size w w' := by
  obtain ⟨A0, c0, B0, d0, rfl, rfl, -⟩ := hm.slices
  obtain ⟨vs, ⟨A, c, rfl, -, hnc, hc, hr⟩, hin⟩ := id h
  unfold maxLen at hc
  have hB0 := (((Below.refl w.heap.size w).alloc (Nat.le_refl _) (.cells #[.int .i64 p.c, .slice A p.x.length c] 36)).alloc (by simp) (.cells #[.slice A0 M.mem.length c0, .slice B0 M.ths.length d0] 41)).alloc (by simp; omega) (.cells #[.int .i64 m.t, .bool m.d] 54)
  have k0 := ((Bk.new w #[.int .i64 p.c, .slice A p.x.length c] 36).alloc (.cells #[.slice A0 M.mem.length c0, .slice B0 M.ths.length d0] 41)).alloc (.cells #[.int .i64 m.t, .bool m.d] 54)
  have k1 := (Bk.new (w.alloc (.cells #[.int .i64 p.c, .slice A p.x.length c] 36)) #[.slice A0 M.mem.length c0, .slice B0 M.ths.length d0] 41).alloc (.cells #[.int .i64 m.t, .bool m.d] 54)
  have k2 := Bk.new ((w.alloc (.cells #[.int .i64 p.c, .slice A p.x.length c] 36)).alloc (.cells #[.slice A0 M.mem.length c0, .slice B0 M.ths.length d0] 41)) #[.int .i64 m.t, .bool m.d] 54
  simp only [World.size_alloc] at k1 k2
  have hC1 := spec_MachineOk _ _ _ p M _ (h.below hB0) (hm.below hB0)
  have HB0 := Lib.hid hB0
  clear hr hin hB0
  cases hok : machOk p M
  · rw [hok] at hC1
    have HC1 := Lib.hid hC1
    have HN : Hid (canMv p M m = false) := Lib.hid (by simp [canMv, hok])
    clear hC1 hok
    go_enter Try.func24, Try.ntmps24
    go_wp2_with fail
    refine HC1.out.mono ?_
    rintro e w1 ⟨rfl, hb1⟩
    go_wp2_with fail
    go_ret
    exact ⟨ret_bool HN.out.symm, HB0.out.trans (hb1.mono HB0.out.size)⟩
  rw [hok] at hC1
  have HC1 := Lib.hid hC1
  have hpl := progOk_len (machOk_parts hok).1
  have h4 := (machOk_parts hok).2.2.2.1
  clear hC1
  cases hi : inB m.t 0 (p.x.length - 1)
  · have HN : Hid (canMv p M m = false) := Lib.hid (by simp [canMv, hi])
    have hI := fun W : World => l01In m.t 0 ((p.x.length : Int) - 1) W
    rw [hi] at hI
    have HI := Lib.hid hI
    clear hI hi h4
    go_enter Try.func24, Try.ntmps24
    go_wp2_with fail
    refine HC1.out.mono ?_
    rintro e w1 ⟨rfl, hb1⟩
    obtain ⟨y1, -⟩ := (k0.below hb1 k0.lt).at_ 1 (x := .slice A p.x.length c) rfl
    obtain ⟨y2, -⟩ := (k2.below hb1 k2.lt).at_ 0 (x := .int .i64 m.t) rfl
    go_wp2_with (go_at_call 53; refine (HI.out _).mono ?_; rintro e w' ⟨rfl, rfl⟩)
    go_ret
    exact ⟨ret_bool HN.out.symm, HB0.out.trans (hb1.mono HB0.out.size)⟩
  · have hI := fun W : World => l01In m.t 0 ((p.x.length : Int) - 1) W
    rw [hi] at hI
    have HI := Lib.hid hI
    have hii := inB_true hi
    obtain ⟨mt, md⟩ := m
    simp only at *
    obtain ⟨k, hk⟩ : ∃ k : Nat, mt = k := ⟨mt.toNat, by omega⟩
    subst hk
    obtain ⟨t, code, hW⟩ := well_of hok (k := k) (by omega)
    have HN : Hid (canMv p M ⟨k, md⟩ = canT md t code) := Lib.hid (by unfold canMv; rw [hok, hi, hW.canAt]; rfl)
    have HW := Lib.hid hW
    clear hI hi h4 hW hok
    go_enter Try.func24, Try.ntmps24
    go_wp2_with fail
    refine HC1.out.mono ?_
    rintro e w1 ⟨rfl, hb1⟩
    have hB1 := HB0.out.trans (hb1.mono HB0.out.size)
    obtain ⟨y0, -⟩ := (k0.below hb1 k0.lt).at_ 0 (x := .int .i64 p.c) rfl
    obtain ⟨y1, -⟩ := (k0.below hb1 k0.lt).at_ 1 (x := .slice A p.x.length c) rfl
    obtain ⟨y2, -⟩ := (k2.below hb1 k2.lt).at_ 0 (x := .int .i64 k) rfl
    obtain ⟨y3, -⟩ := (k2.below hb1 k2.lt).at_ 1 (x := .bool md) rfl
    obtain ⟨y4, -⟩ := (k1.below hb1 k1.lt).at_ 0 (x := .slice A0 M.mem.length c0) rfl
    obtain ⟨y5, -⟩ := (k1.below hb1 k1.lt).at_ 1 (x := .slice B0 M.ths.length d0) rfl
    have HB1 := Lib.hid hB1
    clear hB1 hb1
    go_wp2_with (go_at_call 53; refine (HI.out _).mono ?_; rintro e w' ⟨rfl, rfl⟩)
    refine (l04Can _ _ _ p M k md t code _ (h.below HB1.out) (hm.below HB1.out) HW.out).mono ?_
    rintro e w2 ⟨rfl, hb2⟩
    obtain ⟨z, hz⟩ : ∃ z, canT md t code = z := ⟨_, rfl⟩
    rw [hz] at HN ⊢
    clear hz
    go_wp2_with fail
    go_ret
    exact ⟨ret_bool HN.out.symm, HB1.out.trans (hb2.mono HB1.out.size)⟩
set_option maxHeartbeats 1600000 in
theorem spec_Moves (v mv tv : Value) (p : Pr) (M : Ma) (w : World) (h : RdSS w v p.x) (hm : RdMa w mv tv M) :
    Calls Try.prog 27 #[.agg #[.int .i64 p.c, v], .agg #[mv, tv]] w (RetMvs (mvsF p M) w) := by
  obtain ⟨A0, c0, B0, d0, rfl, rfl, -⟩ := hm.slices
  obtain ⟨vs, ⟨A, c, rfl, -, hnc, hc, hr⟩, hin⟩ := id h
  have hB0 := ((Below.refl w.heap.size w).alloc (Nat.le_refl _) (.cells #[.int .i64 p.c, .slice A p.x.length c] 36)).alloc (by simp) (.cells #[.slice A0 M.mem.length c0, .slice B0 M.ths.length d0] 41)
  have k0 := (Bk.new w #[.int .i64 p.c, .slice A p.x.length c] 36).alloc (.cells #[.slice A0 M.mem.length c0, .slice B0 M.ths.length d0] 41)
  have k1 := Bk.new (w.alloc (.cells #[.int .i64 p.c, .slice A p.x.length c] 36)) #[.slice A0 M.mem.length c0, .slice B0 M.ths.length d0] 41
  simp only [World.size_alloc] at k1
  have hC1 := spec_MachineOk _ _ _ p M _ (h.below hB0) (hm.below hB0)
  have HB0 := Lib.hid hB0
  clear hB0 hr hin
  cases hok : machOk p M
  · rw [hok] at hC1
    have HC1 := Lib.hid hC1
    have HN : Hid (mvsF p M = []) := Lib.hid (by simp [mvsF, hok])
    clear hC1 hok
    go_enter Try.func27, Try.ntmps27
    go_wp2_with fail
    refine HC1.out.mono ?_
    rintro e w1 ⟨rfl, hb1⟩
    go_wp2_with fail
    go_ret
    exact ⟨_, [], rfl, by rw [HN.out]; exact Own.nil _ _, by simp, HB0.out.trans (hb1.mono HB0.out.size)⟩
  · rw [hok] at hC1
    have HC1 := Lib.hid hC1
    have HN : Hid (mvsF p M = mvsAt p M M.ths.length) := Lib.hid (by simp [mvsF, hok])
    clear hC1
    go_enter Try.func27, Try.ntmps27
    go_wp2_with fail
    refine HC1.out.mono ?_
    rintro e w1 ⟨rfl, hb1⟩
    have hB1 := HB0.out.trans (hb1.mono HB0.out.size)
    obtain ⟨p0, -⟩ := (k0.below hb1 k0.lt).at_ 0 (x := .int .i64 p.c) rfl
    obtain ⟨p1, -⟩ := (k0.below hb1 k0.lt).at_ 1 (x := .slice A p.x.length c) rfl
    obtain ⟨m0, -⟩ := (k1.below hb1 k1.lt).at_ 0 (x := .slice A0 M.mem.length c0) rfl
    obtain ⟨m1, -⟩ := (k1.below hb1 k1.lt).at_ 1 (x := .slice B0 M.ths.length d0) rfl
    have HB1 := Lib.hid hB1
    clear hB1 hb1
    go_wp2_with fail
    refine (l04Moves _ _ _ p M _ (h.below HB1.out) (hm.below HB1.out) hok).mono ?_
    rintro e w2 ⟨v2, bs2, rfl, ho2, hlo2, hb2⟩
    have HO2 := Lib.hid ho2
    clear ho2
    go_wp2_with fail
    go_ret
    exact ⟨_, bs2, rfl, by rw [HN.out]; exact HO2.out, fun b hb => Nat.le_trans HB1.out.size (hlo2 b hb), HB1.out.trans (hb2.mono HB1.out.size)⟩
end Go.Proofs.Ytiflooopfpcelaa
