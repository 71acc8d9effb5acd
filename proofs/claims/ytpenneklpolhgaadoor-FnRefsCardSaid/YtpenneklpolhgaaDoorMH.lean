/- Contracts of the laws' helpers over a heap: size, copy, equality, marks and their look-up; a reference and an operation as pairs. Condition: at most 1048576 elements. -/
import Derived.Test.YtpenneklpolhgaaDoorVH
namespace Go.Proofs.YtpenneklpolhgaaDoor
set_option maxRecDepth 20000
set_option linter.unusedSimpArgs false
set_option linter.unusedVariables false
open Go.ChangeShapes Go.WideShapes Go.ChangeAt Go.RowKit
set_option linter.unusedVariables false
set_option maxHeartbeats 400000 in
theorem szHeap (mv tv : Value) (M : Hp) (left : Int) (w : World) (h : RdAHp w mv tv M) (hl0 : -1 ≤ left) (hl : left ≤ 1048576) :
    Calls Tryd.prog 6 #[.agg #[mv, tv], .int .i64 left] w fun e w' => e = .returned (.int .i64 (szF (totHp M) left)) ∧ Below w.heap.size w w' := by
  obtain ⟨A, c, B, d, rfl, rfl⟩ := h.slices
  have hB := (Below.refl w.heap.size w).alloc (Nat.le_refl _) (.cells #[.slice A M.g.length c, .slice B M.l.length d] 25)
  have K := Bk.new w #[.slice A M.g.length c, .slice B M.l.length d] 25
  have HB := Lib.hid hB
  clear hB
  by_cases hx : left - M.g.length < 0
  · have hs : Hid (szF (totHp M) left = -1) := Lib.hid (by unfold szF totHp; rw [if_pos (by omega)])
    have hs1 : Hid (szF M.g.length left = -1) := Lib.hid (by unfold szF; rw [if_pos hx])
    clear hx
    go_enter Tryd.func6, Tryd.ntmps6
    go_wp2_with fail
    refine (toB (szIntS _ _ _ left _ (h.g.below HB.out) hl0 hl)).mono ?_
    rintro e w1 ⟨rfl, hb1⟩
    rw [hs1.out]
    go_wp2_with fail
    go_ret
    exact ⟨ret_int hs.out.symm, HB.out.trans (hb1.mono HB.out.size)⟩
  · have hs1 : Hid (szF M.g.length left = left - M.g.length) := Lib.hid (by unfold szF; rw [if_neg hx])
    have hx0 : 0 ≤ left - M.g.length := by omega
    by_cases hy : left - M.g.length - M.l.length < 0
    · have hs : Hid (szF (totHp M) left = -1) := Lib.hid (by unfold szF totHp; rw [if_pos (by omega)])
      have hs2 : Hid (szF (M.l.length) (left - M.g.length) = -1) := Lib.hid (by unfold szF; rw [if_pos hy])
      clear hx hy
      go_enter Tryd.func6, Tryd.ntmps6
      go_wp2_with fail
      refine (toB (szIntS _ _ _ left _ (h.g.below HB.out) hl0 hl)).mono ?_
      rintro e w1 ⟨rfl, hb1⟩
      rw [hs1.out]
      have hB1 := HB.out.trans (hb1.mono HB.out.size)
      have K1 := K.below hb1 K.lt
      obtain ⟨hc0, hf0⟩ := K1.at_ 1 (x := .slice B M.l.length d) rfl
      have HB1 := Lib.hid hB1
      clear hB1
      go_wp2_with fail
      refine (toB (szBoolS _ _ _ (left - M.g.length) _ (h.l.below HB1.out) (by omega) (by omega))).mono ?_
      rintro e w2 ⟨rfl, hb2⟩
      rw [hs2.out]
      go_wp2_with fail
      go_ret
      exact ⟨ret_int hs.out.symm, HB1.out.trans (hb2.mono HB1.out.size)⟩
    · have hs : Hid (szF (totHp M) left = left - M.g.length - M.l.length) := Lib.hid (by unfold szF totHp; rw [if_neg (by omega)]; omega)
      have hs2 : Hid (szF (M.l.length) (left - M.g.length) = left - M.g.length - M.l.length) := Lib.hid (by unfold szF; rw [if_neg hy])
      have hy0 : 0 ≤ left - M.g.length - M.l.length := by omega
      clear hx hy
      go_enter Tryd.func6, Tryd.ntmps6
      go_wp2_with fail
      refine (toB (szIntS _ _ _ left _ (h.g.below HB.out) hl0 hl)).mono ?_
      rintro e w1 ⟨rfl, hb1⟩
      rw [hs1.out]
      have hB1 := HB.out.trans (hb1.mono HB.out.size)
      have K1 := K.below hb1 K.lt
      obtain ⟨hc0, hf0⟩ := K1.at_ 1 (x := .slice B M.l.length d) rfl
      have HB1 := Lib.hid hB1
      clear hB1
      go_wp2_with fail
      refine (toB (szBoolS _ _ _ (left - M.g.length) _ (h.l.below HB1.out) (by omega) (by omega))).mono ?_
      rintro e w2 ⟨rfl, hb2⟩
      rw [hs2.out]
      go_wp2_with fail
      go_ret
      exact ⟨ret_int hs.out.symm, HB1.out.trans (hb2.mono HB1.out.size)⟩
set_option maxHeartbeats 1600000 in
theorem toHeap (mv tv : Value) (M : Hp) (w : World) (h : RdAHp w mv tv M) (hsz : totHp M ≤ 1048576) :
    Calls Tryd.prog 8 #[.agg #[mv, tv]] w (RetHp M w) := by
  obtain ⟨A, c, B, d, rfl, rfl⟩ := h.slices
  have hsm : M.g.length ≤ 1048576 := by unfold totHp at hsz; omega
  have hst : M.l.length ≤ 1048576 := by unfold totHp at hsz; omega
  go_enter Tryd.func8, Tryd.ntmps8
  go_wp2_with fail
  refine (toIntS _ M.g _ (h.g.below ((((Below.refl _ _).alloc (Nat.le_refl _) _).alloc (by simp) _).alloc (by simp; omega) _)) hsm).mono ?_
  rintro e w1 ⟨v1, bs1, rfl, ho1, hbs1, hb1⟩
  obtain ⟨A1, c1, rfl, hcc1, hcm1⟩ := ho1.slice
  have k1 := (((Bk.new w #[.slice A M.g.length c, .slice B M.l.length d] 25).alloc (.cells #[.slice none 0 0, .slice none 0 0] 29)).alloc (.cells #[.slice none 0 0, .slice none 0 0] 29)).below hb1 (by simp; omega)
  have k2 := ((Bk.new (w.alloc (.cells #[.slice A M.g.length c, .slice B M.l.length d] 25)) #[.slice none 0 0, .slice none 0 0] 29).alloc (.cells #[.slice none 0 0, .slice none 0 0] 29)).below hb1 (by simp)
  have k3 := (Bk.new ((w.alloc (.cells #[.slice A M.g.length c, .slice B M.l.length d] 25)).alloc (.cells #[.slice none 0 0, .slice none 0 0] 29)) #[.slice none 0 0, .slice none 0 0] 29).below hb1 (by simp)
  have hB1 := ((((Below.refl w.heap.size w).alloc (Nat.le_refl _) (.cells #[.slice A M.g.length c, .slice B M.l.length d] 25)).alloc (by simp) (.cells #[.slice none 0 0, .slice none 0 0] 29)).alloc (by simp; omega) (.cells #[.slice none 0 0, .slice none 0 0] 29)).trans (hb1.mono (by simp; omega))
  simp only [World.size_alloc] at k2 k3 hbs1
  have k3' := k3.set_ 0 (.slice A1 M.g.length c1)
  have k1' := k1.far (p := ⟨w.heap.size + 1 + 1, 0, none⟩) (by simp; omega) (.slice A1 M.g.length c1)
  have k2' := k2.far (p := ⟨w.heap.size + 1 + 1, 0, none⟩) (by simp) (.slice A1 M.g.length c1)
  have ho1' := ho1.far (b := w.heap.size + 1 + 1) (i := 0) (u := .slice A1 M.g.length c1) fun k hk => by have := hbs1 k hk; omega
  have hB1' := hB1.setCell (p := ⟨w.heap.size + 1 + 1, 0, none⟩) (by show w.heap.size ≤ w.heap.size + 1 + 1; omega) (.slice A1 M.g.length c1)
  obtain ⟨hc1, hf1⟩ := k1'.at_ 1 (x := .slice B M.l.length d) rfl
  obtain ⟨hc3, hf3⟩ := k3.at_ 0 (x := .slice none 0 0) rfl
  have HB1 := Lib.hid hB1'
  have hi1 := ho1'.lt
  clear hB1 hB1' hb1 ho1
  go_wp2_with fail
  refine (toBoolS _ M.l _ (h.l.below HB1.out) hst).mono ?_
  rintro e w2 ⟨v2, bs2, rfl, ho2, hbs2, hb2⟩
  obtain ⟨A2, c2, rfl, hcc2, hcm2⟩ := ho2.slice
  have q3 := k3'.below hb2 k3'.lt
  have q2 := k2'.below hb2 k2'.lt
  have hO1 := ho1'.below hb2
  have hB2 := HB1.out.trans (hb2.mono HB1.out.size)
  have hsz2 := k3'.lt
  simp only [World.setCell, Array.size_modify] at hbs2 hsz2 hi1
  have q3' := q3.set_ 1 (.slice A2 M.l.length c2)
  have q2' := q2.far (p := ⟨w.heap.size + 1 + 1, 1, none⟩) (by simp) (.slice A2 M.l.length c2)
  have q2a := q2'.set_ 0 (.slice A1 M.g.length c1)
  have q2b := q2a.set_ 1 (.slice A2 M.l.length c2)
  obtain ⟨hd2, he2⟩ := q3.at_ 1 (x := .slice none 0 0) rfl
  obtain ⟨hd30, he30⟩ := q3'.at_ 0 (x := .slice A1 M.g.length c1) rfl
  obtain ⟨hd31, he31⟩ := q3'.at_ 1 (x := .slice A2 M.l.length c2) rfl
  obtain ⟨hd20, he20⟩ := q2'.at_ 0 (x := .slice none 0 0) rfl
  obtain ⟨hd21, he21⟩ := q2a.at_ 1 (x := .slice none 0 0) rfl
  obtain ⟨z0, -⟩ := q2b.at_ 0 (x := .slice A1 M.g.length c1) rfl
  obtain ⟨z1, -⟩ := q2b.at_ 1 (x := .slice A2 M.l.length c2) rfl
  clear hb2 HB1
  have HB2 := Lib.hid hB2
  clear hB2
  go_wp2_with fail
  refine bodyPost_ret (v := .agg #[.slice A1 M.g.length c1, .slice A2 M.l.length c2]) (by simp [results, Tryd.results8, go_sem, z0, z1]) rfl ⟨_, _, bs1 ++ bs2, rfl, OwnHp.mk ?_ ?_ (fun b hb hm => by have := hi1 b hb; have := hbs2 b hm; omega), ?_, ?_⟩
  · exact ((hO1.far fun k hk => by have := hbs1 k hk; omega).far fun k hk => by have := hbs1 k hk; omega).far fun k hk => by have := hbs1 k hk; omega
  · exact ((ho2.far fun k hk => by have := hbs2 k hk; omega).far fun k hk => by have := hbs2 k hk; omega).far fun k hk => by have := hbs2 k hk; omega
  · intro b hb
    rcases List.mem_append.1 hb with hb | hb
    · have := hbs1 b hb
      omega
    · have := hbs2 b hb
      omega
  · exact ((HB2.out.setCell (by show w.heap.size ≤ w.heap.size + 1 + 1; omega) _).setCell (Nat.le_succ _) _).setCell (Nat.le_succ _) _
set_option maxHeartbeats 800000 in
theorem eqHeap (mv tv mv' tv' : Value) (M N : Hp) (w : World) (h : RdHp w mv tv M) (h' : RdHp w mv' tv' N) :
    Calls Tryd.prog 11 #[.agg #[mv, tv], .agg #[mv', tv']] w fun e w' => e = .returned (.bool (decide (M = N))) ∧ Below w.heap.size w w' := by
  obtain ⟨A, c, B, d, rfl, rfl, -⟩ := h.slices
  obtain ⟨A', c', B', d', rfl, rfl, -⟩ := h'.slices
  have hB := ((Below.refl w.heap.size w).alloc (Nat.le_refl _) (.cells #[.slice A M.g.length c, .slice B M.l.length d] 29)).alloc (by simp) (.cells #[.slice A' N.g.length c', .slice B' N.l.length d'] 29)
  have k1 := (Bk.new w #[.slice A M.g.length c, .slice B M.l.length d] 29).alloc (.cells #[.slice A' N.g.length c', .slice B' N.l.length d'] 29)
  have k2 := Bk.new (w.alloc (.cells #[.slice A M.g.length c, .slice B M.l.length d] 29)) #[.slice A' N.g.length c', .slice B' N.l.length d'] 29
  simp only [World.size_alloc] at k2
  have HB := Lib.hid hB
  clear hB
  go_enter Tryd.func11, Tryd.ntmps11
  go_wp2_with fail
  refine (eqIntSB _ _ M.g N.g _ (h.g.below HB.out) (h'.g.below HB.out)).mono ?_
  rintro e w1 ⟨rfl, hb1⟩
  have HB1 := Lib.hid (HB.out.trans (hb1.mono HB.out.size))
  cases hd : decide (M.g = N.g)
  · have HD : Hid (decide (M = N) = false) := Lib.hid (by simp only [decide_eq_false_iff_not] at hd ⊢; exact fun h => hd (by rw [h]))
    clear hd
    go_wp2_with fail
    go_ret
    exact ⟨ret_bool HD.out.symm, HB1.out⟩
  · have HV : Hid (M.g = N.g) := Lib.hid (by simpa using hd)
    obtain ⟨hc1, -⟩ := (k1.below hb1 k1.lt).at_ 1 (x := .slice B M.l.length d) rfl
    obtain ⟨hc2, -⟩ := (k2.below hb1 k2.lt).at_ 1 (x := .slice B' N.l.length d') rfl
    clear hd
    go_wp2_with fail
    refine (eqBoolSB _ _ M.l N.l _ (h.l.below HB1.out) (h'.l.below HB1.out)).mono ?_
    rintro e w2 ⟨rfl, hb2⟩
    cases hd : decide (M.l = N.l)
    · have HD : Hid (decide (M = N) = false) := Lib.hid (by simp only [decide_eq_false_iff_not] at hd ⊢; exact fun h => hd (by rw [h]))
      clear hd
      go_wp2_with fail
      go_ret
      exact ⟨ret_bool HD.out.symm, HB1.out.trans (hb2.mono HB1.out.size)⟩
    · have HD : Hid (decide (M = N) = true) := Lib.hid (by
        simp only [decide_eq_true_eq] at hd ⊢
        obtain ⟨t1, t2⟩ := M
        obtain ⟨u1, u2⟩ := N
        have h1 : t1 = u1 := HV.out
        have h2 : t2 = u2 := hd
        rw [h1, h2])
      clear hd
      go_wp2_with fail
      go_ret
      exact ⟨ret_bool HD.out.symm, HB1.out.trans (hb2.mono HB1.out.size)⟩
set_option maxHeartbeats 1600000 in
theorem markHeap (mv tv : Value) (M : Hp) (bs : List Nat) (m : Int) (w : World) (h : OwnHp w mv tv M bs) (hsz : totHp M ≤ 16777216) (hm0 : 0 ≤ m) (hm : m ≤ 1073741824) :
    Calls Tryd.prog 12 #[.agg #[mv, tv], .int .i64 m] w fun e w' => e = .returned (.int .i64 (m + totHp M)) ∧ OwnHp w' mv tv (mkHp M m) bs ∧ Only bs w w' := by
  obtain ⟨A, c, B, d, rfl, rfl⟩ := h.slices
  obtain ⟨bm, bt, hM, hT, hdis, rfl⟩ := h
  have hsm : M.g.length ≤ 16777216 ∧ M.l.length ≤ 16777216 := by unfold totHp at hsz; omega
  have hB := (Below.refl w.heap.size w).alloc (Nat.le_refl _) (.cells #[.slice A M.g.length c, .slice B M.l.length d] 29)
  have K := Bk.new w #[.slice A M.g.length c, .slice B M.l.length d] 29
  have hM1 := hM.below hB
  have hT1 := hT.below hB
  have hlm := hM.lt
  have hlt := hT.lt
  have HB := Lib.hid hB
  clear hB
  go_enter Tryd.func12, Tryd.ntmps12
  go_wp2_with fail
  refine (markIntS _ M.g bm m _ hM1 hsm.1 hm0 (by omega)).mono ?_
  rintro e w1 ⟨rfl, ho1, hon1⟩
  have K1 := K.only hon1 (fun hm => by have := hlm _ hm; omega)
  have hT2 := hT1.only hon1 (fun b hb hm => hdis b hm hb)
  have hO1 := (Only.of_below HB.out (bm ++ bt)).trans (hon1.mono fun b hb => List.mem_append.2 (.inl hb))
  obtain ⟨hc0, hf0⟩ := K1.at_ 1 (x := .slice B M.l.length d) rfl
  have HO1 := Lib.hid hO1
  clear hO1
  go_wp2_with fail
  refine (markBoolS _ M.l bt (m + M.g.length) _ hT2 hsm.2 (by omega) (by omega)).mono ?_
  rintro e w2 ⟨rfl, ho2, hon2⟩
  have hM3 := ho1.only hon2 hdis
  have hO2 := HO1.out.trans (hon2.mono fun b hb => List.mem_append.2 (.inr hb))
  have hct : Hid (m + (totHp M : Int) = m + M.g.length + M.l.length) := Lib.hid (by unfold totHp; omega)
  have HO2 := Lib.hid hO2
  clear hO2 HO1
  go_wp2_with fail
  go_ret
  exact ⟨ret_int hct.out.symm, ⟨bm, bt, by rw [show (mkHp M m).g.length = M.g.length from marked_len _ _]; exact hM3, by rw [show (mkHp M m).l.length = M.l.length from bmarked_len _ _]; exact ho2, hdis, rfl⟩, HO2.out⟩
set_option maxHeartbeats 1600000 in
theorem heldHeap (mv tv : Value) (M : Hp) (m : Int) (w : World) (h : RdHp w mv tv (mkHp M m)) (hsz : totHp M ≤ 16777216) (hm0 : 0 ≤ m) (hm : m ≤ 1073741824) :
    Calls Tryd.prog 13 #[.agg #[mv, tv], .int .i64 m] w fun e w' => e = .returned (.int .i64 (m + totHp M)) ∧ Below w.heap.size w w' := by
  have h1 := h.g
  have h2 := h.l
  rw [show (mkHp M m).g.length = M.g.length from marked_len _ _] at h1
  obtain ⟨A, c, B, d, rfl, rfl, -⟩ := h.slices
  rw [show (mkHp M m).g.length = M.g.length from marked_len _ _, show (mkHp M m).l.length = M.l.length from bmarked_len _ _] at *
  have hsm : M.g.length ≤ 16777216 ∧ M.l.length ≤ 16777216 := by unfold totHp at hsz; omega
  have hB := (Below.refl w.heap.size w).alloc (Nat.le_refl _) (.cells #[.slice A M.g.length c, .slice B M.l.length d] 29)
  have K := Bk.new w #[.slice A M.g.length c, .slice B M.l.length d] 29
  have HB := Lib.hid hB
  have hct : Hid (m + (totHp M : Int) = m + M.g.length + M.l.length) := Lib.hid (by unfold totHp; omega)
  clear hB
  go_enter Tryd.func13, Tryd.ntmps13
  go_wp2_with fail
  refine (heldIntSB _ M.g.length m _ (h1.below HB.out) (by omega) (by omega) (by omega)).mono ?_
  rintro e w1 ⟨rfl, hb1⟩
  have hB1 := HB.out.trans (hb1.mono HB.out.size)
  have K1 := K.below hb1 K.lt
  obtain ⟨hc0, hf0⟩ := K1.at_ 1 (x := .slice B M.l.length d) rfl
  have HB1 := Lib.hid hB1
  clear hB1
  go_wp2_with fail
  refine (heldBoolS _ M.l.length (m + M.g.length) _ (h2.below HB1.out) hsm.2 (by omega) (by omega)).mono ?_
  rintro e w2 ⟨rfl, hb2⟩
  have hge : 0 ≤ m + (M.g.length : Int) + (M.l.length : Int) := by omega
  have hle : m + (M.g.length : Int) + (M.l.length : Int) ≤ 1099511627776 := by have := hsm.2; omega
  have HB2 := Lib.hid (HB1.out.trans (hb2.mono HB1.out.size))
  go_wp2_with fail
  go_ret
  exact ⟨ret_int hct.out.symm, HB2.out⟩
set_option maxHeartbeats 400000 in
theorem toRef (i : P2) (w : World) :
    Calls Tryd.prog 9 #[.agg #[.int .i64 i.a, .int .i64 i.b]] w fun e w' => e = .returned (.agg #[.int .i64 i.a, .int .i64 i.b]) ∧ Below w.heap.size w w' := by
  go_enter Tryd.func9, Tryd.ntmps9
  go_wp2_with fail
  exact bodyPost_ret (v := .agg #[.int .i64 i.a, .int .i64 i.b]) (by simp [results, Tryd.results9, go_sem]) rfl ⟨rfl, (((Below.refl _ _).alloc (Nat.le_refl _) _).alloc (by simp) _).alloc (by simp; omega) _⟩
theorem infoRef : (Tryd.prog.info? 33).map (fun i => (i.zero, i.size, i.bytes)) = some (some (.agg #[.int .i64 0, .int .i64 0]), 2, 16) := by kernel_rfl
set_option maxHeartbeats 400000 in
theorem toHeapOp (i : P2) (w : World) :
    Calls Tryd.prog 47 #[.agg #[.int .i64 i.a, .int .i64 i.b]] w fun e w' => e = .returned (.agg #[.int .i64 i.a, .int .i64 i.b]) ∧ Below w.heap.size w w' := by
  go_enter Tryd.func47, Tryd.ntmps47
  go_wp2_with fail
  exact bodyPost_ret (v := .agg #[.int .i64 i.a, .int .i64 i.b]) (by simp [results, Tryd.results47, go_sem]) rfl ⟨rfl, (((Below.refl _ _).alloc (Nat.le_refl _) _).alloc (by simp) _).alloc (by simp; omega) _⟩
theorem infoHeapOp : (Tryd.prog.info? 57).map (fun i => (i.zero, i.size, i.bytes)) = some (some (.agg #[.int .i64 0, .int .i64 0]), 2, 16) := by kernel_rfl
set_option maxHeartbeats 400000 in
theorem szHeapOpS (v : Value) (n : Nat) (cs : List Value) (left : Int) (w : World) (h : RdA w v 2 n cs) (hl0 : -1 ≤ left) (hl : left ≤ 1048576) :
    Calls Tryd.prog 14 #[v, .int .i64 left] w fun e w' => e = .returned (.int .i64 (szF n left)) ∧ w = w' := by
  obtain ⟨A, c, rfl, -, hnc, hc, -⟩ := h
  unfold maxLen at hc
  by_cases hx : left - n < 0
  · go_enter Tryd.func14, Tryd.ntmps14
    go_wp2
    go_ret
    exact ⟨ret_int (by unfold szF; rw [if_pos hx]), rfl⟩
  · go_enter Tryd.func14, Tryd.ntmps14
    go_wp2
    go_ret
    exact ⟨ret_int (by unfold szF; rw [if_neg (by omega)]), rfl⟩
set_option maxHeartbeats 800000 in
theorem toHeapOpS (v : Value) (xs : List P2) (w : World) (h : RdA w v 2 xs.length (flc2 xs)) (hsz : xs.length ≤ 1048576) :
    Calls Tryd.prog 16 #[v] w fun e w' => ∃ v' bs, e = .returned v' ∧ Own w' v' 2 xs.length (flc2 xs) bs ∧ (∀ b ∈ bs, w.heap.size ≤ b) ∧ Below w.heap.size w w' := by
  obtain ⟨A, c, rfl, -, hnc, hc, hr⟩ := h
  unfold maxLen at hc
  obtain ⟨i, hi, hz0, hz1, hz2⟩ := info_parts infoHeapOp
  go_enter Tryd.func16, Tryd.ntmps16
  go_wp2_with (at_make; refine wpList_make_full _ rfl _ _ 42 rfl w.heap.size 57 i (.agg #[.int .i64 0, .int .i64 0]) 2 Tryd.underlying42 hi hz0 hz1 _ _ _ _ xs.length rfl rfl rfl rfl (by rw [hz2]; omega) (by unfold maxLen; omega) (Nat.le_refl _) ?_)
  intro w1 hown hg1
  rw [p2Part_zero] at hown
  have hb1 : Below w.heap.size w w1 := (Below.refl _ _).grown hg1 (Nat.le_refl _) (by simp)
  go_wp2_with fail
  go_loopw [4] (fun i wr => ∃ k : Nat, k ≤ xs.length ∧ i = .int .i64 k ∧ wr.ownsRow w.heap.size 57 2 (.slice (some ⟨w.heap.size, 0, none⟩) xs.length xs.length) xs.length (p2Part xs k) ∧ Below w.heap.size w wr) (fun i _ => xs.length - (intOf i).toNat)
  case atStart => exact ⟨0, Nat.zero_le _, rfl, hown, hb1⟩
  case round =>
    obtain ⟨k, hk, rfl, hO, hB⟩ := hrel
    clear hown hb1 hg1
    by_cases hlt : k < xs.length
    · obtain ⟨ad, rfl, hb, hcell⟩ := hr (by omega)
      obtain ⟨x, hxk, hx0, hx1⟩ := p2_atA hcell hlt hB hb
      clear hcell hr
      go_wp2_with fail
      refine (toHeapOp x _).mono ?_
      rintro e w2 ⟨rfl, hb2⟩
      have hO2 := ownsRow_below hO hb2
      have hB2 := hB.trans (hb2.mono hB.size)
      have hcA := fun j (hj : j < 2) => (hO2.cellAt (k * 2 + j) (by omega)).trans (p2Part_at hlt j hj)
      have hc0 := hcA 0 (by omega)
      have hc1 := hcA 1 (by omega)
      have hf0 := hO2.frozenAt (k * 2)
      have hf1 := hO2.frozenAt (k * 2 + 1)
      rw [Nat.add_zero] at hc0
      clear hcA
      go_wp2_with fail
      exact ⟨⟨k + 1, by omega, by go_num, (p2Part_set hxk.out) ▸ owns_set2 hO2 (k * 2) (k * 2 + 1) (.int .i64 x.a) (.int .i64 x.b), below_set2 hB2 (Nat.le_refl _) _ _ _ _⟩, by simp [intOf]; omega⟩
    · go_wp2_with fail
      go_ret
      obtain rfl : k = xs.length := by omega
      rw [p2Part_all] at hO
      obtain ⟨bs, h1, h2⟩ := Own.of_owns hO
      exact ⟨_, bs, rfl, h1, h2, hB⟩
set_option maxHeartbeats 800000 in
theorem eqHeapOp (x y : P2) (w : World) :
    Calls Tryd.prog 49 #[.agg #[.int .i64 x.a, .int .i64 x.b], .agg #[.int .i64 y.a, .int .i64 y.b]] w fun e w' => e = .returned (.bool (decide (x = y))) ∧ Below w.heap.size w w' := by
  obtain ⟨a, b⟩ := x
  obtain ⟨a', b'⟩ := y
  have hB := ((Below.refl w.heap.size w).alloc (Nat.le_refl _) (.cells #[.int .i64 a, .int .i64 b] 57)).alloc (by simp) (.cells #[.int .i64 a', .int .i64 b'] 57)
  have hN : ∀ (p q : Int), ¬ p = q → (p != q) = true := fun p q h => by simp [h]
  have HB := Lib.hid hB
  clear hB
  by_cases h1 : a = a'
  · by_cases h2 : b = b'
    · subst h1 h2
      clear hN
      go_enter Tryd.func49, Tryd.ntmps49
      go_wp2_with fail
      go_ret
      exact ⟨ret_bool (by simp), HB.out⟩
    · have e := hN _ _ h2
      have HD : Hid (decide (P2.mk a b = P2.mk a' b') = false) := Lib.hid (by simp [h2])
      subst h1
      clear hN h2
      go_enter Tryd.func49, Tryd.ntmps49
      go_wp2_with fail
      go_ret
      exact ⟨ret_bool HD.out.symm, HB.out⟩
  · have e := hN _ _ h1
    have HD : Hid (decide (P2.mk a b = P2.mk a' b') = false) := Lib.hid (by simp [h1])
    clear hN h1
    go_enter Tryd.func49, Tryd.ntmps49
    go_wp2_with fail
    go_ret
    exact ⟨ret_bool HD.out.symm, HB.out⟩
set_option maxHeartbeats 1600000 in
theorem eqHeapOpS (v u : Value) (xs ys : List P2) (w : World) (h : Rd w v 2 xs.length (flc2 xs)) (h' : Rd w u 2 ys.length (flc2 ys)) :
    Calls Tryd.prog 19 #[v, u] w fun e w' => e = .returned (.bool (decide (xs = ys))) ∧ Below w.heap.size w w' := by
  obtain ⟨A, c, rfl, -, hnc, hc, hr⟩ := h
  obtain ⟨A', c', rfl, -, hnc', hc', hr'⟩ := h'
  unfold maxLen at hc hc'
  by_cases hlen : xs.length = ys.length
  · have hne : ((xs.length : Int) != (ys.length : Int)) = false := by simp [hlen]
    have hlen' : xs.length ≤ ys.length ∧ ys.length ≤ xs.length := by omega
    clear hlen
    go_enter Tryd.func19, Tryd.ntmps19
    go_wp2_with fail
    go_loopw [5] (fun i wr => ∃ k : Nat, k ≤ xs.length ∧ i = .int .i64 k ∧ Hid (xs.take k = ys.take k) ∧ Below w.heap.size w wr) (fun i _ => xs.length - (intOf i).toNat)
    case atStart => exact ⟨0, Nat.zero_le _, rfl, Lib.hid (by simp), Below.refl _ _⟩
    case round =>
      obtain ⟨k, hk, rfl, HT, hB⟩ := hrel
      by_cases hlt : k < xs.length
      · obtain ⟨b, o, rfl, hb, hcell⟩ := hr (by omega)
        obtain ⟨b', o', rfl, hb', hcell'⟩ := hr' (by omega)
        obtain ⟨x, hxk, hx0, hx1⟩ := p2_at (fun j u hu => (hB.cell (p := ⟨b, o + j, none⟩) hb).trans (hcell j u hu)) hlt
        obtain ⟨y, hyk, hy0, hy1⟩ := p2_at (k := k) (fun j u hu => (hB.cell (p := ⟨b', o' + j, none⟩) hb').trans (hcell' j u hu)) (by omega)
        have hlt2 : k < ys.length := by omega
        have hlt3 : ((k : Int) < ys.length) := by omega
        have lb : b < wr.heap.size := Nat.lt_of_lt_of_le hb hB.size
        have lb' : b' < wr.heap.size := Nat.lt_of_lt_of_le hb' hB.size
        clear hcell hcell' hr hr'
        go_wp2_with fail
        have HS : Hid (∀ W : World, Below wr.heap.size wr W → Below wr.heap.size wr W ∧ W.cell? ⟨b, o + k * 2, none⟩ = some (.int .i64 x.a) ∧ W.cell? ⟨b, o + k * 2 + 1, none⟩ = some (.int .i64 x.b) ∧
          W.cell? ⟨b', o' + k * 2, none⟩ = some (.int .i64 y.a) ∧ W.cell? ⟨b', o' + k * 2 + 1, none⟩ = some (.int .i64 y.b)) :=
          Lib.hid fun W hW => ⟨hW, (hW.cell (p := ⟨b, o + k * 2, none⟩) lb).trans hx0, (hW.cell (p := ⟨b, o + k * 2 + 1, none⟩) lb).trans hx1,
            (hW.cell (p := ⟨b', o' + k * 2, none⟩) lb').trans hy0, (hW.cell (p := ⟨b', o' + k * 2 + 1, none⟩) lb').trans hy1⟩
        have HB := Lib.hid hB
        clear hB
        go_region_held3 (fun W => Below wr.heap.size wr W ∧ W.cell? ⟨b, o + k * 2, none⟩ = some (.int .i64 x.a) ∧ W.cell? ⟨b, o + k * 2 + 1, none⟩ = some (.int .i64 x.b) ∧
          W.cell? ⟨b', o' + k * 2, none⟩ = some (.int .i64 y.a) ∧ W.cell? ⟨b', o' + k * 2 + 1, none⟩ = some (.int .i64 y.b)) (first | (exact HS.out _ (Below.refl _ _).drew) | (exact HS.out _ (by assumption)))
          (first
            | (go_at_call 49; have hS := ‹Below wr.heap.size wr _ ∧ _›.1; refine (eqHeapOp x y _).mono ?_; rintro e w9 ⟨rfl, hb9⟩; have hS2 := hS.trans (hb9.mono hS.size); clear hS))
        have hS := ‹Below wr.heap.size wr _ ∧ _›.1
        clear HS
        have hBn := HB.out.trans (hS.mono HB.out.size)
        clear HB hx0 hx1 hy0 hy1 hb9
        have HBn := Lib.hid hBn
        clear hBn hS
        cases hd : decide (x = y)
        · have hn : decide (xs = ys) = false := by
            rw [decide_eq_false_iff_not]
            rintro rfl
            have := hxk.out.symm.trans hyk.out
            injection this with this
            simp [this] at hd
          have HN := Lib.hid hn
          clear hn hd
          go_wp2_with fail
          go_ret
          exact ⟨ret_bool HN.out.symm, HBn.out⟩
        · have e : x = y := by simpa using hd
          have HE := Lib.hid e
          clear e hd
          go_wp2_with fail
          exact ⟨⟨k + 1, by omega, by go_num, Lib.hid (take_snoc_eq HT.out (hxk.out.trans (by rw [hyk.out, HE.out]))), HBn.out⟩, by simp [intOf]; omega⟩
      · go_wp2_with fail
        go_ret
        refine ⟨ret_bool ?_, hB⟩
        have h1 := HT.out
        rw [List.take_of_length_le (by omega), List.take_of_length_le (by omega)] at h1
        simp [h1]
  · have hne : ((xs.length : Int) != (ys.length : Int)) = true := by simp; omega
    go_enter Tryd.func19, Tryd.ntmps19
    go_wp2_with fail
    go_ret
    exact ⟨ret_bool (by simp; intro e; exact hlen (by rw [e])), Below.refl _ _⟩
set_option maxHeartbeats 800000 in
theorem markHeapOpS (v : Value) (zs : List Int) (n : Nat) (bs : List Nat) (m : Int) (w : World) (h : Own w v 2 n (ints zs) bs) (hsz : n ≤ 16777216) (hm0 : 0 ≤ m) (hm : m ≤ 1099511627776) :
    Calls Tryd.prog 20 #[v, .int .i64 m] w fun e w' => e = .returned (.int .i64 (m + n * 2)) ∧ Own w' v 2 n (ints (marked (n * 2) m)) bs ∧ Only bs w w' := by
  obtain ⟨A, c, rfl, hl, hnc, hc, hr⟩ := h
  unfold maxLen at hc
  rw [ints_len] at hl
  rcases hr with ⟨rfl, rfl⟩ | ⟨hpos, b, o, rfl, rfl, hb, hat⟩
  · go_enter Tryd.func20, Tryd.ntmps20
    go_wp2
    go_loop [1, 5] (fun mm i => i = .int .i64 0 ∧ mm = .int .i64 m) (fun _ _ => 0)
    case atStart => exact ⟨rfl, rfl⟩
    case round =>
      obtain ⟨rfl, rfl⟩ := hrel
      go_wp2
      go_ret
      exact ⟨ret_int (by simp), ⟨A, c, rfl, by simp [ints, marked], hnc, hc, .inl ⟨rfl, rfl⟩⟩, Only.refl _ _⟩
  · go_enter Tryd.func20, Tryd.ntmps20
    go_wp2
    go_loopw [1, 5] (fun mm i wr => ∃ k : Nat, k ≤ n ∧ i = .int .i64 k ∧ mm = .int .i64 (m + k * 2) ∧ At wr b o (markPart zs m (k * 2)) ∧ Only [b] w wr) (fun _ i _ => n - (intOf i).toNat)
    case atStart => exact ⟨0, Nat.zero_le _, rfl, by simp, by simpa [markPart, marked, ints] using hat, Only.refl _ _⟩
    case round =>
      obtain ⟨k, hk, rfl, rfl, hA, hO⟩ := hrel
      clear hat
      by_cases hlt : k < n
      · obtain ⟨hc0, hf0⟩ := hA (k * 2) _ (markPart_at (by omega))
        obtain ⟨hc1, hf1⟩ := hA (k * 2 + 1) _ (markPart_next (by omega) 1 (by omega))
        simp only [← Nat.add_assoc] at hc1 hf1
        go_wp2_with fail
        refine ⟨⟨k + 1, by omega, by go_num, by go_num, ?_, ?_⟩, by simp [intOf]; omega⟩
        · rw [← markPart_set2 (xs := zs) (m := m) (k := k) (by omega)]
          exact (hA.set_ (k * 2) _).set_ (k * 2 + 1) _
        · exact (hO.trans (Only.setCell _ _)).trans (Only.setCell _ _)
      · obtain rfl : k = n := by omega
        go_wp2_with fail
        go_ret
        refine ⟨rfl, ⟨_, c, rfl, by simp [ints, marked], hnc, hc, .inr ⟨hpos, b, o, rfl, rfl, Nat.lt_of_lt_of_le hb hO.size, ?_⟩⟩, hO⟩
        have hd : zs.drop (k * 2) = [] := List.drop_of_length_le (by omega)
        simpa [markPart, ints, hd] using hA
end Go.Proofs.YtpenneklpolhgaaDoor
