/- Contracts of canExecute and l04Can: whether a thread can move. Condition: the machine is valid, the thread exists. -/
import Derived.Test.YtiflooopfpcelaaC2
namespace Go.Proofs.Ytiflooopfpcelaa
set_option maxRecDepth 20000
set_option linter.unusedSimpArgs false
set_option linter.unusedVariables false
open Go.ChangeShapes Go.WideShapes Go.ChangeAt Go.RowKit
set_option maxHeartbeats 1600000 in
theorem impl_canExecute (t : Th) (a f v : Value) (code : List Ins) (w : World) (hv : Rd w v 4 code.length (flc code)) (hf : ∃ A c, f = .slice A t.f.length c) (hpc : inB t.pc 0 code.length = true) :
    Calls Try.prog 74 #[.agg #[.int .i64 t.pc, a, f], v] w fun e w' => e = .returned (.bool (canEx t code)) ∧ Below w.heap.size w w' := by
  obtain ⟨A, c, rfl⟩ := hf
  obtain ⟨C, cc, rfl, -, hncc, hccc, hr⟩ := id hv
  unfold maxLen at hccc
  have hB := (Below.refl w.heap.size w).alloc (Nat.le_refl _) (.cells #[.int .i64 t.pc, a, .slice A t.f.length c] 71)
  have K := Bk.new w #[.int .i64 t.pc, a, .slice A t.f.length c] 71
  have hC := fun W => impl_atEnd t a (.slice A t.f.length c) (.slice C code.length cc) code W ⟨_, _, rfl⟩
  have HB := Lib.hid hB
  clear hB
  cases he : endT t code
  case true =>
    rw [he] at hC
    have HC := Lib.hid hC
    have HN : Hid (canEx t code = false) := Lib.hid (by simp [canEx, he])
    clear hC he hr
    go_enter Try.func74, Try.ntmps74
    go_wp2_with fail
    refine (HC.out _).mono ?_
    rintro e w1 ⟨rfl, hb1⟩
    go_wp2_with fail
    go_ret
    exact ⟨ret_bool HN.out.symm, HB.out.trans (hb1.mono HB.out.size)⟩
  case false =>
    rw [he] at hC
    have HC := Lib.hid hC
    have hi := inB_true hpc
    have hlt : t.pc.toNat < code.length := by simp only [endT, decide_eq_false_iff_not] at he; omega
    obtain ⟨k, hk⟩ : ∃ k : Nat, t.pc = k := ⟨t.pc.toNat, by omega⟩
    have hkl : k < code.length := by omega
    obtain ⟨b, o, rfl, hb, hcell⟩ := hr (by omega)
    obtain ⟨i, hik, hx0, hx1, hx2, hx3⟩ := ins_at hcell hkl
    have HI : Hid (insAt t code = i) := Lib.hid (by
      unfold insAt
      rw [hk, Int.toNat_natCast, List.getD_eq_getElem?_getD, hik.out]
      rfl)
    have hklt : (k : Int) < code.length := by omega
    have HE := Lib.hid he
    clear hC he hr hcell hlt hi hpc
    rw [hk] at K HB HC ⊢
    go_enter Try.func74, Try.ntmps74
    go_wp2_with fail
    refine (HC.out _).mono ?_
    rintro e w1 ⟨rfl, hb1⟩
    have hB1 := HB.out.trans (hb1.mono HB.out.size)
    have K1 := K.below hb1 K.lt
    obtain ⟨t0, -⟩ := K1.at_ 0 (x := .int .i64 k) rfl
    obtain ⟨t2, -⟩ := K1.at_ 2 (x := .slice A t.f.length c) rfl
    have y0 := (hB1.cell (p := ⟨b, o + k * 4, none⟩) hb).trans hx0
    have y1 := (hB1.cell (p := ⟨b, o + k * 4 + 1, none⟩) hb).trans hx1
    have y2 := (hB1.cell (p := ⟨b, o + k * 4 + 2, none⟩) hb).trans hx2
    have y3 := (hB1.cell (p := ⟨b, o + k * 4 + 3, none⟩) hb).trans hx3
    have HB1 := Lib.hid hB1
    clear hB1 HB hb1 HC hx0 hx1 hx2 hx3
    go_wp2_with fail
    refine (ins_op i _).mono ?_
    rintro e w2 ⟨rfl, hb2⟩
    have hBi := HB1.out.alloc HB1.out.size (.cells #[.int .i64 i.o, .int .i64 i.r, .int .i64 i.s, .int .i64 i.n] 118)
    have hB2 := hBi.trans (hb2.mono hBi.size)
    have K2 := (K1.alloc (.cells #[.int .i64 i.o, .int .i64 i.r, .int .i64 i.s, .int .i64 i.n] 118)).below hb2 (by simp; have := K1.lt; omega)
    have J2 := (Bk.new w1 #[.int .i64 i.o, .int .i64 i.r, .int .i64 i.s, .int .i64 i.n] 118).below hb2 (by simp)
    obtain ⟨t2', -⟩ := K2.at_ 2 (x := .slice A t.f.length c) rfl
    obtain ⟨j0, -⟩ := J2.at_ 0 (x := .int .i64 i.o) rfl
    obtain ⟨j1, -⟩ := J2.at_ 1 (x := .int .i64 i.r) rfl
    obtain ⟨j2, -⟩ := J2.at_ 2 (x := .int .i64 i.s) rfl
    obtain ⟨j3, -⟩ := J2.at_ 3 (x := .int .i64 i.n) rfl
    have HB2 := Lib.hid hB2
    clear hB2 hBi HB1 hb2 y0 y1 y2 y3 t0 t2
    by_cases h3 : i.o = 3
    · have e3 : (i.o == 3) = true := by simp [h3]
      have HN : Hid (canEx t code = decide ((t.f.length : Int) < 3)) := Lib.hid (by
        unfold canEx
        rw [HE.out, HI.out, if_neg (by simp), if_pos h3]
        by_cases hf : t.f.length < 3
        · rw [decide_eq_true hf, decide_eq_true (by omega)]
        · rw [decide_eq_false hf, decide_eq_false (by omega)])
      clear h3
      go_wp2_with fail
      go_ret
      exact ⟨ret_bool HN.out.symm, HB2.out⟩
    · have e3 : (i.o == 3) = false := by simp [h3]
      by_cases hf : t.f.length = 0
      · have HN : Hid (canEx t code = true) := Lib.hid (by unfold canEx; rw [HE.out, HI.out]; simp [h3, hf])
        have e0 : ((t.f.length : Int) == 0) = true := by simp [hf]
        clear h3 hf
        go_wp2_with fail
        go_ret
        exact ⟨ret_bool HN.out.symm, HB2.out⟩
      · have e0 : ((t.f.length : Int) == 0) = false := by simp only [beq_eq_false_iff_ne]; omega
        have HN : Hid (canEx t code = !fenceB i) := Lib.hid (by unfold canEx; rw [HE.out, HI.out]; simp [h3, hf])
        clear h3 hf
        cases hfb : fenceB i
        all_goals
          have hH := fun W => impl_HasFence i W
          rw [hfb] at hH HN
          have HH := Lib.hid hH
          clear hH hfb
          go_wp2_with fail
          refine (HH.out _).mono ?_
          rintro e w3 ⟨rfl, hb3⟩
          go_wp2_with fail
          go_ret
          exact ⟨ret_bool HN.out.symm, HB2.out.trans (hb3.mono HB2.out.size)⟩
/-- a machine that is well, and a thread of it -/
structure Well (p : Pr) (M : Ma) (k : Nat) (t : Th) (code : List Ins) : Prop where
  ok : machOk p M = true
  ht : M.ths[k]? = some t
  hc : p.x[k]? = some code
theorem Well.th {p : Pr} {M : Ma} {k : Nat} {t : Th} {code : List Ins} (h : Well p M k t code) : thOk p.c t code = true := machOk_th h.ok h.ht h.hc
theorem Well.canAt {p : Pr} {M : Ma} {k : Nat} {t : Th} {code : List Ins} (h : Well p M k t code) (d : Bool) : canAt p M ⟨k, d⟩ = canT d t code := by
  unfold Proofs.Ytiflooopfpcelaa.canAt
  simp only [Int.toNat_natCast, List.getD_eq_getElem?_getD, h.ht, h.hc, Option.getD_some]
theorem well_of {p : Pr} {M : Ma} (h : machOk p M = true) {k : Nat} (hk : k < M.ths.length) : ∃ t code, Well p M k t code := by
  have ht : M.ths[k]? = some M.ths[k] := List.getElem?_eq_getElem hk
  obtain ⟨-, -, -, h4, -⟩ := machOk_parts h
  obtain ⟨code, hc⟩ := code_at h4 ht
  exact ⟨_, _, h, ht, hc⟩
set_option maxHeartbeats 6400000 in
theorem l04Can (v mv tv : Value) (p : Pr) (M : Ma) (k : Nat) (d : Bool) (t : Th) (code : List Ins) (w : World) (h : RdSS w v p.x) (hm : RdMa w mv tv M) (hW : Well p M k t code) :
    Calls Try.prog 71 #[.agg #[.int .i64 p.c, v], .agg #[mv, tv], .agg #[.int .i64 k, .bool d]] w fun e w' => e = .returned (.bool (canT d t code)) ∧ Below w.heap.size w w' := by
  obtain ⟨A0, c0, B0, d0, rfl, rfl, -, hBd, hcc, hdc⟩ := hm.slices
  obtain ⟨vsT, hvl, ⟨A', c', hAe, -, -, -, hrT⟩, hinT⟩ := hm.ths
  injection hAe with hAe1 _ hAe3
  subst hAe1 hAe3
  obtain ⟨vs, ⟨A, c, rfl, -, hnc, hc, hr⟩, hin⟩ := h
  unfold maxLen at hc
  have hkt := (List.getElem?_eq_some_iff.1 hW.ht).1
  have hkc := (List.getElem?_eq_some_iff.1 hW.hc).1
  obtain ⟨bT, oT, rfl, hbT, hcT⟩ := hrT (by omega)
  obtain ⟨b, o, rfl, hb, hcell⟩ := hr (by omega)
  have hW0 := (((Below.refl w.heap.size w).alloc (Nat.le_refl _) (.cells #[.int .i64 p.c, .slice (some ⟨b, o, none⟩) p.x.length c] 36)).alloc (by simp) (.cells #[.slice A0 M.mem.length c0, .slice (some ⟨bT, oT, none⟩) M.ths.length d0] 41)).alloc (by simp; omega) (.cells #[.int .i64 k, .bool d] 54)
  obtain ⟨t', a1, a2, HT, HPv, hx0, hx1, hx2⟩ := th_at hvl hcT hkt hW0 hbT
  obtain rfl : t' = t := Option.some.inj (HT.out.symm.trans hW.ht)
  obtain ⟨ra, rb⟩ := hinT k t' (a1, a2) HT.out HPv.out
  obtain ⟨ck, hck, hrk⟩ := hin.at_ hW.hc
  obtain ⟨Ak, dk, rfl, -, hnk, hdk, hrk2⟩ := id hrk
  unfold maxLen at hdk
  obtain ⟨Av, cv, rfl, -, hnv, hcv, -⟩ := id ra
  obtain ⟨Af, cf, rfl, -, hnf, hcf, -⟩ := id rb
  have hth := hW.th
  have hpc := inB_true (thOk_parts hth).1
  have hf3 : t'.f.length ≤ 3 := by have := (thOk_parts hth).2.2.1; simp only [bufOk, Bool.and_eq_true, decide_eq_true_eq] at this; exact this.1
  obtain ⟨j, hj⟩ : ∃ j : Nat, t'.pc = j := ⟨t'.pc.toNat, by omega⟩
  rw [hj] at hx0 hpc
  clear hinT hrT hcT hin hr HPv HT hth ra rb
  have hklt : (k : Int) < M.ths.length := by omega
  have hklt' : (k : Int) < p.x.length := by omega
  have hxw := (hW0.cell (p := ⟨b, o + k, none⟩) hb).trans (hcell k _ hck)
  have hcell2 := hcell k _ hck
  clear hcell hck
  cases hd : d
  case true =>
    subst hd
    have HB := Lib.hid hW0
    clear hW0 hxw hrk hrk2
    by_cases hf : 0 < t'.f.length
    · have HN : Hid (canT true t' code = true) := Lib.hid (by simp [canT, canDr, hf])
      go_enter Try.func71, Try.ntmps71
      go_wp2_with fail
      go_ret
      exact ⟨ret_bool HN.out.symm, (HB.out.alloc HB.out.size _)⟩
    · have HN : Hid (canT true t' code = false) := Lib.hid (by simp only [canT, canDr, if_true, decide_eq_false_iff_not]; exact hf)
      go_enter Try.func71, Try.ntmps71
      go_wp2_with fail
      go_ret
      exact ⟨ret_bool HN.out.symm, (HB.out.alloc HB.out.size _)⟩
  case false =>
    subst hd
    have hBT := hW0.alloc hW0.size (.cells #[.int .i64 j, .slice Av t'.v.length cv, .slice Af t'.f.length cf] 71)
    have KP := (((Bk.new w #[.int .i64 p.c, .slice (some ⟨b, o, none⟩) p.x.length c] 36).alloc (.cells #[.slice A0 M.mem.length c0, .slice (some ⟨bT, oT, none⟩) M.ths.length d0] 41)).alloc (.cells #[.int .i64 k, .bool false] 54)).alloc (.cells #[.int .i64 j, .slice Av t'.v.length cv, .slice Af t'.f.length cf] 71)
    have KV := (Bk.new ((w.alloc (.cells #[.int .i64 p.c, .slice (some ⟨b, o, none⟩) p.x.length c] 36)).alloc (.cells #[.slice A0 M.mem.length c0, .slice (some ⟨bT, oT, none⟩) M.ths.length d0] 41)) #[.int .i64 k, .bool false] 54).alloc (.cells #[.int .i64 j, .slice Av t'.v.length cv, .slice Af t'.f.length cf] 71)
    have KT := Bk.new (((w.alloc (.cells #[.int .i64 p.c, .slice (some ⟨b, o, none⟩) p.x.length c] 36)).alloc (.cells #[.slice A0 M.mem.length c0, .slice (some ⟨bT, oT, none⟩) M.ths.length d0] 41)).alloc (.cells #[.int .i64 k, .bool false] 54)) #[.int .i64 j, .slice Av t'.v.length cv, .slice Af t'.f.length cf] 71
    simp only [World.size_alloc] at KT KV
    have hxT := (hBT.cell (p := ⟨b, o + k, none⟩) hb).trans (hcell2)
    have hrT := hrk.below hBT
    have hbT2 := Nat.lt_of_lt_of_le hb hBT.size
    obtain ⟨WW, hWW⟩ : ∃ WW, WW = (((w.alloc (.cells #[.int .i64 p.c, .slice (some ⟨b, o, none⟩) p.x.length c] 36)).alloc (.cells #[.slice A0 M.mem.length c0, .slice (some ⟨bT, oT, none⟩) M.ths.length d0] 41)).alloc (.cells #[.int .i64 k, .bool false] 54)).alloc (.cells #[.int .i64 j, .slice Av t'.v.length cv, .slice Af t'.f.length cf] 71) := ⟨_, rfl⟩
    rw [← hWW] at hBT KP KV KT hxT hrT hbT2
    have HWW := Lib.hid hWW
    have HBT := Lib.hid hBT
    clear hWW hBT hxw hW0 hrk2 hrk
    obtain ⟨y0, -⟩ := KT.at_ 0 (x := .int .i64 j) rfl
    obtain ⟨y1, -⟩ := KP.at_ 1 (x := .slice (some ⟨b, o, none⟩) p.x.length c) rfl
    obtain ⟨y2, -⟩ := KV.at_ 0 (x := .int .i64 k) rfl
    by_cases he : (j : Int) = code.length
    · have e1 : ((j : Int) == (code.length : Int)) = true := by simp [he]
      have HN : Hid (canT false t' code = false) := Lib.hid (by simp [canT, canEx, endT, hj, he])
      clear he
      go_enter Try.func71, Try.ntmps71
      go_wp2_with fail
      rw [← HWW.out]
      go_quiet (fail)
      go_wp2_with fail
      go_ret
      exact ⟨ret_bool HN.out.symm, below_more HBT.out _⟩
    · have e1 : ((j : Int) == (code.length : Int)) = false := by simp only [beq_eq_false_iff_ne]; exact he
      have hjl : j < code.length := by omega
      have HE : Hid (endT t' code = false) := Lib.hid (by simp [endT, hj, he])
      obtain ⟨Ak', dk', hAk, -, -, -, hrk2⟩ := id hrT
      injection hAk with hAk1 _ hAk3
      subst hAk1 hAk3
      obtain ⟨b2, o2, rfl, hb2, hcell2'⟩ := hrk2 (by omega)
      obtain ⟨i, hik, hi0, hi1, hi2, hi3⟩ := ins_at hcell2' hjl
      have HI : Hid (insAt t' code = i) := Lib.hid (by
        unfold insAt
        rw [hj, Int.toNat_natCast, List.getD_eq_getElem?_getD, hik.out]
        rfl)
      have hjl' : (j : Int) < code.length := by omega
      have lT := KT.lt
      have lP := KP.lt
      have lV := KV.lt
      clear he hcell2' hrk2 hrT
      go_enter Try.func71, Try.ntmps71
      go_wp2_with fail
      rw [← HWW.out]
      go_quiet (fail)
      have z0 : (WW.drewN nq).cell? ⟨w.heap.size + 1 + 1 + 1, 0, none⟩ = some (.int .i64 j) := y0
      have z1 : (WW.drewN nq).cell? ⟨w.heap.size, 1, none⟩ = some (.slice (some ⟨b, o, none⟩) p.x.length c) := y1
      have z2 : (WW.drewN nq).cell? ⟨w.heap.size + 1 + 1, 0, none⟩ = some (.int .i64 k) := y2
      have zx : (WW.drewN nq).cell? ⟨b, o + k, none⟩ = some (.slice (some ⟨b2, o2, none⟩) code.length dk) := hxT
      have zi0 : (WW.drewN nq).cell? ⟨b2, o2 + j * 4, none⟩ = some (.int .i64 i.o) := hi0
      have zi1 : (WW.drewN nq).cell? ⟨b2, o2 + j * 4 + 1, none⟩ = some (.int .i64 i.r) := hi1
      have zi2 : (WW.drewN nq).cell? ⟨b2, o2 + j * 4 + 2, none⟩ = some (.int .i64 i.s) := hi2
      have zi3 : (WW.drewN nq).cell? ⟨b2, o2 + j * 4 + 3, none⟩ = some (.int .i64 i.n) := hi3
      have KT5 : Bk (WW.drewN nq) (w.heap.size + 1 + 1 + 1) #[.int .i64 j, .slice Av t'.v.length cv, .slice Af t'.f.length cf] 71 := KT
      have HB5 := Lib.hid (below_more HBT.out nq)
      have lT5 : w.heap.size + 1 + 1 + 1 < (WW.drewN nq).heap.size := lT
      have lP5 : w.heap.size < (WW.drewN nq).heap.size := lP
      have lV5 : w.heap.size + 1 + 1 < (WW.drewN nq).heap.size := lV
      have lb5 : b < (WW.drewN nq).heap.size := hbT2
      have lc5 : b2 < (WW.drewN nq).heap.size := hb2
      go_upto_region 6 with (fail)
      generalize WW.drewN nq = W5 at z0 z1 z2 zx zi0 zi1 zi2 zi3 KT5 HB5 lT5 lP5 lV5 lb5 lc5 ⊢
      clear y0 y1 y2 hxT hi0 hi1 hi2 hi3 KT KP KV lT lP lV hbT2 hb2 HBT
      obtain ⟨u2, -⟩ := KT5.at_ 2 (x := .slice Af t'.f.length cf) rfl
      by_cases h3 : i.o = 3
      · have e3 : (i.o == 3) = true := by simp [h3]
        have HN : Hid (canT false t' code = decide ((t'.f.length : Int) < 3)) := Lib.hid (by
          unfold canT canEx
          rw [HE.out, HI.out, if_neg (by simp), if_neg (by simp), if_pos h3]
          by_cases hf : t'.f.length < 3
          · rw [decide_eq_true hf, decide_eq_true (by omega)]
          · rw [decide_eq_false hf, decide_eq_false (by omega)])
        clear h3
        go_region
        all_goals go_wp2_with fail
        all_goals go_ret
        all_goals exact ⟨ret_bool HN.out.symm, (below_more HB5.out _).alloc (below_more HB5.out _).size _⟩
      · have e3 : (i.o == 3) = false := by simp [h3]
        have HN : Hid (canT false t' code = (!fenceB i || decide (t'.f.length = 0))) := Lib.hid (by
          unfold canT canEx
          rw [HE.out, HI.out, if_neg (by simp), if_neg (by simp), if_neg h3])
        have e0 : ∃ bz : Bool, ((t'.f.length : Int) == 0) = bz ∧ bz = decide (t'.f.length = 0) := ⟨_, rfl, by
          by_cases hf : t'.f.length = 0
          · simp [hf]
          · simp [hf]⟩
        obtain ⟨bz, e0, ez⟩ := e0
        rw [← ez] at HN
        clear h3 ez
        go_region
        all_goals
          cases hfb : fenceB i <;> cases bz
          all_goals
            have hH := fun W => spec_HasFence i W
            rw [hfb] at hH HN
            have HH := Lib.hid hH
            clear hH hfb
            go_wp2_with fail
            refine (HH.out _).mono ?_
            rintro e w3 ⟨rfl, hb3⟩
            have hB6 : Below w.heap.size w w3 := by
              refine Below.trans ?_ (hb3.mono ?_)
              · exact (below_more HB5.out _).alloc (below_more HB5.out _).size _
              · exact ((below_more HB5.out _).alloc (below_more HB5.out _).size _).size
            obtain ⟨u2', -⟩ := ((Bk.alloc (Bk.drewN KT5 _) (.cells #[.int .i64 i.o, .int .i64 i.r, .int .i64 i.s, .int .i64 i.n] 118)).below hb3 (by simp; omega)).at_ 2 (x := .slice Af t'.f.length cf) rfl
            have HB6 := Lib.hid hB6
            clear hB6 hb3
            go_wp2_with fail
            go_ret
            exact ⟨ret_bool HN.out.symm, HB6.out⟩
end Go.Proofs.Ytiflooopfpcelaa
