/- Contracts of chapter 3's program functions (package impl): DrainAll. Condition: the slices can be read. -/
import Derived.Test.YtiflooopfpcelaaB4
import Derived.Test.YtiflooopfpcelaaB5
import Derived.WalkMore
namespace Go.Proofs.Ytiflooopfpcelaa
set_option maxRecDepth 20000
set_option linter.unusedSimpArgs false
set_option linter.unusedVariables false
open Go.ChangeShapes Go.WideShapes Go.ChangeAt Go.RowKit
set_option linter.unusedVariables false
theorem bufOk_tail {x : P2} {xs : List P2} (h : bufOk (x :: xs) = true) : bufOk xs = true := by
  simp only [bufOk, List.length_cons, List.all_cons, Bool.and_eq_true, decide_eq_true_eq] at h ⊢
  exact ⟨by omega, h.2.2⟩
def lenV : Value → Nat
  | .slice _ n _ => n
  | _ => 0
theorem dr_true {ys : List P2} {M : List Int} (h : drOk ys M = true) : runF ys M = runF (drB ys M) (drM ys M) ∧ bufOk (drB ys M) = true ∧ (drB ys M).length + 1 = ys.length := by
  cases ys with
  | nil => simp [drOk] at h
  | cons y zs =>
    have h' := h
    simp only [drOk, Bool.and_eq_true] at h'
    simp [drB, h, drM, h'.1, runF, h'.2, bufOk_tail h'.1]
theorem dr_false {ys : List P2} {M : List Int} (hb : bufOk ys = true) (h : drOk ys M = false) (hl : 0 < ys.length) : runF ys M = none := by
  cases ys with
  | nil => simp at hl
  | cons y zs =>
    simp [drOk, hb] at h
    simp [runF, h]
set_option maxHeartbeats 3200000 in
theorem impl_DrainAll (v u : Value) (xs : List P2) (ms : List Int) (w : World) (h : Rd w v 2 xs.length (flc2 xs)) (hm : Rd w u 1 ms.length (ints ms)) (hsm : ms.length ≤ 16777215) :
    Calls Try.prog 130 #[v, .agg #[u]] w (RetMemB (daF xs ms) (daOk xs ms) w) := by
  obtain ⟨A, c, rfl, -, hnc, hc, -⟩ := id h
  obtain ⟨Am, cm, rfl, -, hncm, hcm, -⟩ := id hm
  unfold maxLen at hc hcm
  have hBa := ((Below.refl w.heap.size w).alloc (Nat.le_refl _) (.cells #[.slice Am ms.length cm] 38)).alloc (by simp) (.cells #[.slice none 0 0] 38)
  have k1 := (Bk.new w #[.slice Am ms.length cm] 38).alloc (.cells #[.slice none 0 0] 38)
  have k2 := Bk.new (w.alloc (.cells #[.slice Am ms.length cm] 38)) #[.slice none 0 0] 38
  rw [World.size_alloc] at k2
  obtain ⟨W0, hW0⟩ : ∃ W0, (w.alloc (.cells #[.slice Am ms.length cm] 38)).alloc (.cells #[.slice none 0 0] 38) = W0 := ⟨_, rfl⟩
  have hsz0 : W0.heap.size = w.heap.size + 2 := by rw [← hW0]; simp
  rw [hW0] at hBa k1 k2
  have HR : Hid (∀ W, Below w.heap.size w W → Rd W (.slice A xs.length c) 2 xs.length (flc2 xs)) := Lib.hid fun W hW => h.below hW
  have HM : Hid (∀ W, Below w.heap.size w W → Rd W (.slice Am ms.length cm) 1 ms.length (ints ms)) := Lib.hid fun W hW => hm.below hW
  clear h hm
  obtain ⟨hc1, -⟩ := k1.at_ 0 (x := .slice Am ms.length cm) rfl
  obtain ⟨hc2, hf2⟩ := k2.at_ 0 (x := .slice none 0 0) rfl
  have K1 := Lib.hid k1
  have K2 := Lib.hid k2
  have HBa := Lib.hid hBa
  have HZ0 := Lib.hid hsz0
  clear k1 k2 hBa hsz0
  go_enter Try.func130, Try.ntmps130
  go_wp2_with fail
  go_step3
  go_wp2_with fail
  refine (impl_BufOk _ xs _ (HR.out _ HBa.out)).mono ?_
  rintro e w3 ⟨rfl, hb3⟩
  have hB3 := HBa.out.trans (hb3.mono HBa.out.size)
  have k13 := K1.out.below hb3 K1.out.lt
  have k23 := K2.out.below hb3 K2.out.lt
  clear hc1 hc2 hf2
  obtain ⟨hc1, -⟩ := k13.at_ 0 (x := .slice Am ms.length cm) rfl
  obtain ⟨hc2, hf2⟩ := k23.at_ 0 (x := .slice none 0 0) rfl
  have hl3 : w.heap.size + 2 ≤ w3.heap.size := by have := k23.lt; omega
  clear hW0
  cases hb : bufOk xs
  · have HF : Hid (daF xs ms = ms ∧ daOk xs ms = false) := Lib.hid ⟨by simp [daF, hb], by simp [daOk, hb]⟩
    clear hb
    go_wp2_with fail
    refine (copyMem _ ms _ (HM.out _ hB3) (by omega)).mono ?_
    rintro e w7 ⟨v7, bs7, rfl, ho7, hbs7, hb7⟩
    obtain ⟨A7, c7, rfl, -, -⟩ := ho7.slice
    have q7 := k23.below hb7 k23.lt
    obtain ⟨hd2, hg2⟩ := q7.at_ 0 (x := .slice none 0 0) rfl
    have HE := Lib.hid (mem_back (x := .slice A7 ms.length c7) (L := daF xs ms) (ok := daOk xs ms) hB3 hl3 ho7 hbs7 hb7 HF.out)
    go_wp2_with fail
    rw [Exit.noGoto_ret]
    exact bodyPost_ret (v := .tuple #[.agg #[.slice A7 ms.length c7], .bool false]) (by simp [results, Try.results130, go_sem, hd2]) rfl HE.out
  · have HB := Lib.hid hb
    clear hb
    go_wp2_with fail
    refine (impl_MemOk _ ms _ (HM.out _ hB3)).mono ?_
    rintro e w4 ⟨rfl, hb4⟩
    have hB4 := hB3.trans (hb4.mono hB3.size)
    have k1 := k13.below hb4 k13.lt
    have k2 := k23.below hb4 k23.lt
    clear hc1 hc2 hf2
    obtain ⟨hc1, -⟩ := k1.at_ 0 (x := .slice Am ms.length cm) rfl
    obtain ⟨hc2, hf2⟩ := k2.at_ 0 (x := .slice none 0 0) rfl
    have hl4 : w.heap.size + 2 ≤ w4.heap.size := by have := k2.lt; omega
    cases hmo : memOk ms
    · have HF : Hid (daF xs ms = ms ∧ daOk xs ms = false) := Lib.hid ⟨by simp [daF, hmo], by simp [daOk, hmo]⟩
      clear hmo
      go_wp2_with fail
      refine (copyMem _ ms _ (HM.out _ hB4) (by omega)).mono ?_
      rintro e w7 ⟨v7, bs7, rfl, ho7, hbs7, hb7⟩
      obtain ⟨A7, c7, rfl, -, -⟩ := ho7.slice
      have q7 := k2.below hb7 k2.lt
      obtain ⟨hd2, hg2⟩ := q7.at_ 0 (x := .slice none 0 0) rfl
      have HE := Lib.hid (mem_back (x := .slice A7 ms.length c7) (L := daF xs ms) (ok := daOk xs ms) hB4 hl4 ho7 hbs7 hb7 HF.out)
      go_wp2_with fail
      rw [Exit.noGoto_ret]
      exact bodyPost_ret (v := .tuple #[.agg #[.slice A7 ms.length c7], .bool false]) (by simp [results, Try.results130, go_sem, hd2]) rfl HE.out
    · have HDF : Hid (daF xs ms = (runF xs ms).getD ms ∧ daOk xs ms = (runF xs ms).isSome) := Lib.hid ⟨by simp [daF, hmo, HB.out], by simp [daOk, hmo, HB.out]⟩
      clear hmo
      go_wp2_with fail
      refine (copyMem _ ms _ (HM.out _ hB4) (by omega)).mono ?_
      rintro e w5 ⟨v5, bs5, rfl, ho5, hbs5, hb5⟩
      obtain ⟨A5, c5, rfl, -, -⟩ := ho5.slice
      have hB5' := hB4.trans (hb5.mono hB4.size)
      have hB5 := hB5'.alloc hB5'.size (.cells #[.slice A5 ms.length c5] 38)
      have k3 := Bk.new w5 #[.slice A5 ms.length c5] 38
      have hR5 := ho5.below ((Below.refl _ _).alloc (Nat.le_refl _) (.cells #[.slice A5 ms.length c5] 38))
      have hbs5' : ∀ b ∈ bs5, w.heap.size + 2 ≤ b ∧ b ≠ w5.heap.size := fun b hb => by have := hbs5 b hb; have := ho5.lt b hb; omega
      have k15 := (k1.below hb5 k1.lt).alloc (.cells #[.slice A5 ms.length c5] 38)
      have k25 := (k2.below hb5 k2.lt).alloc (.cells #[.slice A5 ms.length c5] 38)
      have hS5 := HR.out _ hB5
      have hl5 : w.heap.size + 2 ≤ w5.heap.size := by have := hb5.size; omega
      clear hc1 hc2 hf2
      go_wp2_with fail
      go_step3
      go_wp2_with fail
      go_loopw [6] (fun left wr => ∃ (ys : List P2) (M : List Int) (Ay AM : Option Addr) (cy cM : Nat) (bsM : List Nat), left = .slice Ay ys.length cy ∧ ys.length ≤ xs.length ∧ Hid (runF xs ms = runF ys M) ∧ Hid (bufOk ys = true) ∧ M.length ≤ 16777215 ∧ Hid (M.length = ms.length) ∧
        Rd wr (.slice Ay ys.length cy) 2 ys.length (flc2 ys) ∧ Own wr (.slice AM M.length cM) 1 M.length (ints M) bsM ∧ (∀ b ∈ bsM, w.heap.size + 2 ≤ b ∧ b ≠ w5.heap.size) ∧ Bk wr w5.heap.size #[.slice AM M.length cM] 38 ∧ Bk wr w.heap.size #[.slice Am ms.length cm] 38 ∧ Bk wr (w.heap.size + 1) #[.slice none 0 0] 38 ∧ Below w.heap.size w wr) (fun left _ => lenV left)
      case atStart => exact ⟨xs, ms, A, A5, c, c5, bs5, rfl, Nat.le_refl _, Lib.hid rfl, HB, hsm, Lib.hid rfl, hS5, hR5, hbs5', k3, k15, k25, hB5⟩
      case round =>
        obtain ⟨ys, M, Ay, AM, cy, cM, bsM, rfl, hyl, HRu, HBy, hMl, HMl, hRy, hOM, hbsM, kM, kA, kR, hB⟩ := hrel
        clear hB5 k3 hR5 k15 k25 k1 k2 hB4 hb4 hB5' hb5 hS5 ho5 k13 k23 hb3 hB3 hl3 hl4
        obtain ⟨hcM, hfM⟩ := kM.at_ 0 (x := .slice AM M.length cM) rfl
        have hbl := bufOk_len HB.out
        obtain ⟨_, _, e0, -, hcy, hcy2, -⟩ := id hRy
        injection e0 with e1 e2 e3
        subst e1 e3
        unfold maxLen at hcy2
        have hyl2 : ys.length ≤ 3 := by omega
        go_wp2_with fail
        refine (impl_DrainOne _ _ ys M _ hRy hOM.rd (by omega) hMl).mono ?_
        rintro e w6 ⟨v1, bs1, v2, bs2, mid, rfl, ho1, ho2, hl1, hm1, hl2, hmid, hb6⟩
        obtain ⟨A1, c1, rfl, hcc1, hcm1⟩ := ho1.slice
        obtain ⟨A2, c2, rfl, -, -⟩ := ho2.slice
        have kM6 := (kM.below hb6 kM.lt).alloc (.cells #[.slice A2 (drM ys M).length c2] 38)
        have kA6 := (kA.below hb6 kA.lt).alloc (.cells #[.slice A2 (drM ys M).length c2] 38)
        have kR6 := (kR.below hb6 kR.lt).alloc (.cells #[.slice A2 (drM ys M).length c2] 38)
        have kN6 := Bk.new w6 #[.slice A2 (drM ys M).length c2] 38
        have hB6 := (hB.trans (hb6.mono hB.size)).alloc (hB.trans (hb6.mono hB.size)).size (.cells #[.slice A2 (drM ys M).length c2] 38)
        have ho1' := ho1.below ((Below.refl _ _).alloc (Nat.le_refl _) (.cells #[.slice A2 (drM ys M).length c2] 38))
        have ho2' := ho2.below ((Below.refl _ _).alloc (Nat.le_refl _) (.cells #[.slice A2 (drM ys M).length c2] 38))
        have hML := kM.lt
        obtain ⟨hcA, -⟩ := kA6.at_ 0 (x := .slice Am ms.length cm) rfl
        obtain ⟨hcR, hfR⟩ := kR6.at_ 0 (x := .slice none 0 0) rfl
        obtain ⟨hcM6, hfM6⟩ := kM6.at_ 0 (x := .slice AM M.length cM) rfl
        obtain ⟨hcN6, hfN6⟩ := kN6.at_ 0 (x := .slice A2 (drM ys M).length c2) rfl
        have hlc : w.heap.size + 2 ≤ w6.heap.size + 1 := by have := kR6.lt; simp at this; omega
        clear hcM hfM
        have hOM6 := (hOM.below hb6).below ((Below.refl _ _).alloc (Nat.le_refl _) (.cells #[.slice A2 (drM ys M).length c2] 38))
        have hl6 := hb6.size
        cases hok : drOk ys M
        · by_cases h0 : ys.length = 0
          · have HF : Hid (daF xs ms = M ∧ daOk xs ms = true) := Lib.hid (by
              have e : runF xs ms = some M := by rw [HRu.out, List.eq_nil_of_length_eq_zero h0]; rfl
              rw [HDF.out.1, HDF.out.2, e]
              exact ⟨rfl, rfl⟩)
            have hE : RetMemB (daF xs ms) (daOk xs ms) w (.returned (.tuple #[.agg #[.slice AM M.length cM], .bool true])) ((w6.alloc (.cells #[.slice A2 (drM ys M).length c2] 38)).setCell ⟨w.heap.size + 1, 0, none⟩ (.slice AM M.length cM)) := by
              rw [HF.out.1, HF.out.2]
              exact ⟨_, bsM, rfl, hOM6.far fun k hk => by have := (hbsM k hk).1; omega, fun b hb => by have := (hbsM b hb).1; omega, hB6.setCell (Nat.le_succ _) _⟩
            have HE := Lib.hid hE
            have hl0 : ((ys.length : Int) == 0) = true := by rw [h0]; rfl
            clear hok hE h0
            go_wp2_with fail
            rw [Exit.noGoto_ret]
            exact bodyPost_ret (v := .tuple #[.agg #[.slice AM M.length cM], .bool true]) (by simp [results, Try.results130, go_sem, hcR]) rfl HE.out
          · have HF : Hid (daF xs ms = ms ∧ daOk xs ms = false) := Lib.hid (by
              have e : runF xs ms = none := by rw [HRu.out]; exact dr_false HBy.out hok (by omega)
              rw [HDF.out.1, HDF.out.2, e]
              exact ⟨rfl, rfl⟩)
            have hl0 : ((ys.length : Int) == 0) = false := by rw [beq_eq_false_iff_ne]; omega
            clear hok h0
            go_wp2_with fail
            refine (copyMem _ ms _ (HM.out _ hB6) (by omega)).mono ?_
            rintro e w7 ⟨v7, bs7, rfl, ho7, hbs7, hb7⟩
            obtain ⟨A7, c7, rfl, -, -⟩ := ho7.slice
            have q7 := kR6.below hb7 kR6.lt
            obtain ⟨hd2, hg2⟩ := q7.at_ 0 (x := .slice none 0 0) rfl
            have HE := Lib.hid (mem_back (x := .slice A7 ms.length c7) (L := daF xs ms) (ok := daOk xs ms) hB6 (by simp; omega) ho7 hbs7 hb7 HF.out)
            go_wp2_with fail
            rw [Exit.noGoto_ret]
            exact bodyPost_ret (v := .tuple #[.agg #[.slice A7 ms.length c7], .bool false]) (by simp [results, Try.results130, go_sem, hd2]) rfl HE.out
        · obtain ⟨t1, t2, t3⟩ := dr_true hok
          have hM2 := drM_len ys M
          obtain ⟨zs, hzs⟩ : ∃ zs, drB ys M = zs := ⟨_, rfl⟩
          obtain ⟨N, hN⟩ : ∃ N, drM ys M = N := ⟨_, rfl⟩
          rw [hzs] at t1 t2 t3 ho1 ho1'
          rw [hN] at t1 hM2 ho2 ho2' kM6 kA6 kR6 kN6 hB6 ho1' hcA hcR hfR hcM6 hfM6 hcN6 hfN6 hOM6
          rw [hN, hzs]
          have HRu2 := Lib.hid (HRu.out.trans t1)
          have HBz := Lib.hid t2
          have HN2 : Hid (N.length = ms.length) := Lib.hid (hM2.trans HMl.out)
          have hN2 : N.length ≤ 16777215 := by omega
          have hzl : zs.length ≤ xs.length := by omega
          have hzy : zs.length < ys.length := by omega
          have hne5 : w5.heap.size ≠ w.heap.size := by omega
          have hne6 : w5.heap.size ≠ w.heap.size + 1 := by omega
          have hE : ∀ W, W = ((w6.alloc (.cells #[.slice A2 N.length c2] 38)).setCell ⟨w5.heap.size, 0, none⟩ (.slice A2 N.length c2)).drew →
              Rd W (.slice A1 zs.length c1) 2 zs.length (flc2 zs) ∧ Own W (.slice A2 N.length c2) 1 N.length (ints N) bs2 ∧ Bk W w5.heap.size #[.slice A2 N.length c2] 38 ∧ Bk W w.heap.size #[.slice Am ms.length cm] 38 ∧ Bk W (w.heap.size + 1) #[.slice none 0 0] 38 ∧ Below w.heap.size w W := by
            rintro W rfl
            exact ⟨(ho1'.far fun k hk => by have := hl1 k hk; omega).rd, ho2'.far fun k hk => by have := hl2 k hk; omega, (show Bk _ w5.heap.size #[.slice A2 N.length c2] 38 from by have := kM6.set_ 0 (.slice A2 N.length c2); simp only [List.setIfInBounds_toArray, List.set_cons_zero] at this; exact this), kA6.far (by show w.heap.size ≠ w5.heap.size; omega) _, kR6.far (by show w.heap.size + 1 ≠ w5.heap.size; omega) _, (hB6.setCell (by show w.heap.size ≤ w5.heap.size; omega) _).drew⟩
          have HE := Lib.hid hE
          have hbs2 : ∀ b ∈ bs2, w.heap.size + 2 ≤ b ∧ b ≠ w5.heap.size := fun b hb => by have := hl2 b hb; omega
          clear hok t1 t2 t3 hM2 hzs hN hE ho1 ho1' ho2 ho2' kM6 kA6 kR6 kN6 hB6 hOM6
          go_wp2_with fail
          go_region
          all_goals go_wp2_with fail
          all_goals exact ⟨⟨zs, N, A1, A2, c1, c2, bs2, rfl, hzl, HRu2, HBz, hN2, HN2, (HE.out _ rfl).1, (HE.out _ rfl).2.1, hbs2, (HE.out _ rfl).2.2.1, (HE.out _ rfl).2.2.2.1, (HE.out _ rfl).2.2.2.2.1, (HE.out _ rfl).2.2.2.2.2⟩, hzy⟩
end Go.Proofs.Ytiflooopfpcelaa
