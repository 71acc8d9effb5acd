/- Contract of chapter 8's function AllocObj (package impl). Conditions: the heap's rows can be read; lengths that a law bounds. -/
import Derived.Test.YtpenneklpolhgaaDoorH9
namespace Go.Proofs.YtpenneklpolhgaaDoor
set_option maxRecDepth 20000
set_option linter.unusedSimpArgs false
set_option linter.unusedVariables false
open Go.ChangeShapes Go.WideShapes Go.ChangeAt Go.RowKit
set_option linter.unusedVariables false
set_option maxHeartbeats 3200000 in
theorem impl_AllocObj (gv lv : Value) (h : Hp) (w : World) (r : RdHp w gv lv h) (hsz : h.g.length ≤ 16777215 ∧ h.l.length ≤ 16777215) :
    Calls Tryd.prog 27 #[.agg #[gv, lv]] w (RetHpRB (allocH h) (allocR h) (allocOk h) w) := by
  obtain ⟨A, c, B, d, rfl, rfl, hc1, hd1, hc2, hd2⟩ := r.slices
  obtain ⟨hs1, hs2⟩ := hsz
  have hB0 := (((Below.refl w.heap.size w).alloc (Nat.le_refl _) (.cells #[.slice A h.g.length c, .slice B h.l.length d] 29)).alloc (by simp) (.cells #[.slice none 0 0, .slice none 0 0] 29)).alloc (by simp; omega) (.cells #[.int .i64 0, .int .i64 0] 33)
  have k1 := ((Bk.new w #[.slice A h.g.length c, .slice B h.l.length d] 29).alloc (.cells #[.slice none 0 0, .slice none 0 0] 29)).alloc (.cells #[.int .i64 0, .int .i64 0] 33)
  have k2 := (Bk.new (w.alloc (.cells #[.slice A h.g.length c, .slice B h.l.length d] 29)) #[.slice none 0 0, .slice none 0 0] 29).alloc (.cells #[.int .i64 0, .int .i64 0] 33)
  have k3 := Bk.new ((w.alloc (.cells #[.slice A h.g.length c, .slice B h.l.length d] 29)).alloc (.cells #[.slice none 0 0, .slice none 0 0] 29)) #[.int .i64 0, .int .i64 0] 33
  simp only [World.size_alloc] at k2 k3
  have r0 := r.below hB0
  go_enter Tryd.func27, Tryd.ntmps27
  go_wp2_with fail
  refine (copyHeap _ _ h _ r0 ⟨hs1, hs2⟩).mono ?_
  rintro e w1 ⟨v1, u1, bs1, rfl, ho1, hbs1, hb1⟩
  obtain ⟨A1, c1, B1, d1, rfl, rfl⟩ := ho1.slices
  have hBm := hB0.trans (hb1.mono hB0.size)
  have j1 := (k1.below hb1 k1.lt).alloc (.cells #[.slice A1 h.g.length c1, .slice B1 h.l.length d1] 29)
  have j2 := (k2.below hb1 k2.lt).alloc (.cells #[.slice A1 h.g.length c1, .slice B1 h.l.length d1] 29)
  have j3 := (k3.below hb1 k3.lt).alloc (.cells #[.slice A1 h.g.length c1, .slice B1 h.l.length d1] 29)
  have j5 := Bk.new w1 #[.slice A1 h.g.length c1, .slice B1 h.l.length d1] 29
  have hl3 := (k3.below hb1 k3.lt).lt
  have hB2 := hBm.alloc hBm.size (.cells #[.slice A1 h.g.length c1, .slice B1 h.l.length d1] 29)
  have ho2 := ho1.below ((Below.refl w1.heap.size w1).alloc (Nat.le_refl _) (.cells #[.slice A1 h.g.length c1, .slice B1 h.l.length d1] 29))
  have hi1 := ho1.lt
  simp only [World.size_alloc] at hbs1
  have r2 := r.below hB2
  obtain ⟨W2, hW2⟩ : ∃ W2, W2 = w1.alloc (.cells #[.slice A1 h.g.length c1, .slice B1 h.l.length d1] 29) := ⟨_, rfl⟩
  obtain ⟨x0, -⟩ := j1.at_ 0 (x := .slice A h.g.length c) rfl
  obtain ⟨x1, -⟩ := j1.at_ 1 (x := .slice B h.l.length d) rfl
  rw [← hW2] at j1 j2 j3 j5 hB2 ho2 r2
  have HW2 := Lib.hid hW2
  have hbs2 : Hid (∀ b ∈ bs1, w.heap.size + 3 ≤ b ∧ b < w1.heap.size) := Lib.hid fun b hb => ⟨by have := hbs1 b hb; omega, hi1 b hb⟩
  have HS := Lib.hid (fun (q : Bool) (hb : hpOk h = q) => show Calls Tryd.prog 56 #[.agg #[.slice A h.g.length c, .slice B h.l.length d]] W2 (fun e w' => e = .returned (.bool q) ∧ Below W2.heap.size W2 w') by rw [← hb]; exact impl_HeapOk _ _ h _ r2)
  have HIX := Lib.hid (indexB _ h.l W2 r2.l)
  have HFL := fre_le h.l
  clear k1 k2 k3 hb1 hBm ho1 hB0 r0 hW2 hbs1 hi1
  go_wp2_with fail
  rw [← HW2.out]
  refine HIX.out.mono ?_
  rintro e w2 ⟨rfl, rfl⟩
  obtain ⟨x0, -⟩ := j1.at_ 0 (x := .slice A h.g.length c) rfl
  obtain ⟨x1, -⟩ := j1.at_ 1 (x := .slice B h.l.length d) rfl
  obtain ⟨ix, hix⟩ : ∃ ix, ixF h.l = ix := ⟨_, rfl⟩
  rw [hix]
  have HX := Lib.hid hix
  clear hix HIX
  go_wp2_with fail
  cases hok : hpOk h
  · have HH := Lib.hid (HS.out _ hok)
    have HN := Lib.hid (And.intro (alloc_bad hok) (allocH_no (alloc_bad hok)))
    clear HS hok x0 x1
    refine HH.out.mono ?_
    rintro e w3 ⟨rfl, hb3⟩
    have q2 := (j2.below hb3 j2.lt)
    have q3 := (j3.below hb3 j3.lt)
    have q5 := (j5.below hb3 j5.lt)
    have BT := (hB2.trans (hb3.mono hB2.size))
    have OW := (ho2.below hb3)
    obtain ⟨x0, -⟩ := q5.at_ 0 (x := .slice A1 h.g.length c1) rfl
    obtain ⟨x1, -⟩ := q5.at_ 1 (x := .slice B1 h.l.length d1) rfl
    obtain ⟨y0, f0⟩ := q2.at_ 0 (x := .slice none 0 0) rfl
    obtain ⟨y1, f1⟩ := q2.at_ 1 (x := .slice none 0 0) rfl
    obtain ⟨u0, v0⟩ := q3.at_ 0 (x := .int .i64 0) rfl
    obtain ⟨u1, v1⟩ := q3.at_ 1 (x := .int .i64 0) rfl
    have qF := (((q2.set_ 0 (.slice A1 h.g.length c1)).set_ 1 (.slice B1 h.l.length d1)).far (p := ⟨w.heap.size + 1 + 1, 0, none⟩) (by simp) (.int .i64 0)).far (p := ⟨w.heap.size + 1 + 1, 1, none⟩) (by simp) (.int .i64 0)
    have rF := (((q3.far (p := ⟨w.heap.size + 1, 0, none⟩) (by simp) (.slice A1 h.g.length c1)).far (p := ⟨w.heap.size + 1, 1, none⟩) (by simp) (.slice B1 h.l.length d1)).set_ 0 (.int .i64 0)).set_ 1 (.int .i64 0)
    obtain ⟨z0, -⟩ := qF.at_ 0 (x := .slice A1 h.g.length c1) rfl
    obtain ⟨z1, -⟩ := qF.at_ 1 (x := .slice B1 h.l.length d1) rfl
    obtain ⟨z2, -⟩ := rF.at_ 0 (x := .int .i64 0) rfl
    obtain ⟨z3, -⟩ := rF.at_ 1 (x := .int .i64 0) rfl
    have hw1 : w1.heap.size ≠ w.heap.size + 1 := by omega
    have hw2 : w1.heap.size ≠ w.heap.size + 1 + 1 := by omega
    have HE := Lib.hid (OW.two (g := w.heap.size + 1) (a0 := .slice A1 h.g.length c1) (a1 := .slice B1 h.l.length d1) (b0 := .int .i64 0) (b1 := .int .i64 0) fun b hb => by have := hbs2.out b hb; omega)
    have HX := Lib.hid (below_two BT (g := w.heap.size + 1) (Nat.le_succ _) (.slice A1 h.g.length c1) (.slice B1 h.l.length d1) (.int .i64 0) (.int .i64 0))
    clear q2 q3 q5 qF rF OW BT
    go_wp2_with fail
    exact bodyPost_ret (v := .tuple #[.agg #[.slice A1 h.g.length c1, .slice B1 h.l.length d1], .agg #[.int .i64 0, .int .i64 0], .bool false]) (by simp [results, Tryd.results27, go_sem, z0, z1, z2, z3]) rfl
      ⟨_, _, bs1, by rw [HN.out.1, HN.out.2.2], by rw [HN.out.2.1]; exact HE.out, fun b hb => by have := hbs2.out b hb; omega, HX.out⟩
  · have HH := Lib.hid (HS.out _ hok)
    clear x0 x1
    refine HH.out.mono ?_
    rintro e w3 ⟨rfl, hb3⟩
    have hB3 := hB2.trans (hb3.mono hB2.size)
    have m1 := j1.below hb3 j1.lt
    have m2 := j2.below hb3 j2.lt
    have m3 := j3.below hb3 j3.lt
    have m5 := j5.below hb3 j5.lt
    have ow := ho2.below hb3
    obtain ⟨⟨q1, q2⟩, q3', q4⟩ := hpOk_parts hok
    have q3 : h.l.length ≤ h.g.length ∧ h.g.length ≤ h.l.length := by omega
    have HOK := Lib.hid hok
    obtain ⟨b, o, c', b', o', d', he, he', -, ⟨hb, hb'⟩, hcell, hcell'⟩ := r.open_ (by omega) (by omega)
    injection he with e1 _ e2
    injection he' with e3 _ e4
    subst e1 e2 e3 e4
    have hl1 := m1.lt
    obtain ⟨t1, -⟩ := m1.at_ 0 (x := .slice (some ⟨b, o, none⟩) h.g.length c) rfl
    clear HS HH hok q3' q4 r r2 j1 j2 j3 j5 ho2 hB2 hb3
    by_cases hfull : fre h.l = h.l.length
    · have ho' := alloc_full hfull
      have HN := Lib.hid (And.intro ho' (allocH_no ho'))
      have e9 : ix = -1 := by rw [← HX.out]; exact ixF_no hfull
      subst e9
      clear ho' hfull hcell hcell' HFL
      go_upto_region 4 with (fail)
      have q2 := m2
      have q3 := m3
      have q5 := m5
      have BT := hB3
      have OW := ow
      obtain ⟨x0, -⟩ := q5.at_ 0 (x := .slice A1 h.g.length c1) rfl
      obtain ⟨x1, -⟩ := q5.at_ 1 (x := .slice B1 h.l.length d1) rfl
      obtain ⟨y0, f0⟩ := q2.at_ 0 (x := .slice none 0 0) rfl
      obtain ⟨y1, f1⟩ := q2.at_ 1 (x := .slice none 0 0) rfl
      obtain ⟨u0, v0⟩ := q3.at_ 0 (x := .int .i64 0) rfl
      obtain ⟨u1, v1⟩ := q3.at_ 1 (x := .int .i64 0) rfl
      have qF := (((q2.set_ 0 (.slice A1 h.g.length c1)).set_ 1 (.slice B1 h.l.length d1)).far (p := ⟨w.heap.size + 1 + 1, 0, none⟩) (by simp) (.int .i64 0)).far (p := ⟨w.heap.size + 1 + 1, 1, none⟩) (by simp) (.int .i64 0)
      have rF := (((q3.far (p := ⟨w.heap.size + 1, 0, none⟩) (by simp) (.slice A1 h.g.length c1)).far (p := ⟨w.heap.size + 1, 1, none⟩) (by simp) (.slice B1 h.l.length d1)).set_ 0 (.int .i64 0)).set_ 1 (.int .i64 0)
      obtain ⟨z0, -⟩ := qF.at_ 0 (x := .slice A1 h.g.length c1) rfl
      obtain ⟨z1, -⟩ := qF.at_ 1 (x := .slice B1 h.l.length d1) rfl
      obtain ⟨z2, -⟩ := rF.at_ 0 (x := .int .i64 0) rfl
      obtain ⟨z3, -⟩ := rF.at_ 1 (x := .int .i64 0) rfl
      have hw1 : w1.heap.size ≠ w.heap.size + 1 := by omega
      have hw2 : w1.heap.size ≠ w.heap.size + 1 + 1 := by omega
      have HE := Lib.hid (OW.two (g := w.heap.size + 1) (a0 := .slice A1 h.g.length c1) (a1 := .slice B1 h.l.length d1) (b0 := .int .i64 0) (b1 := .int .i64 0) fun b hb => by have := hbs2.out b hb; omega)
      have HX := Lib.hid (below_two BT (g := w.heap.size + 1) (Nat.le_succ _) (.slice A1 h.g.length c1) (.slice B1 h.l.length d1) (.int .i64 0) (.int .i64 0))
      clear q2 q3 q5 qF rF OW BT
      go_wp2_with fail
      exact bodyPost_ret (v := .tuple #[.agg #[.slice A1 h.g.length c1, .slice B1 h.l.length d1], .agg #[.int .i64 0, .int .i64 0], .bool false]) (by simp [results, Tryd.results27, go_sem, z0, z1, z2, z3]) rfl
        ⟨_, _, bs1, by rw [HN.out.1, HN.out.2.2], by rw [HN.out.2.1]; exact HE.out, fun b hb => by have := hbs2.out b hb; omega, HX.out⟩
    · obtain ⟨k, hkk⟩ : ∃ k : Nat, fre h.l = k := ⟨_, rfl⟩
      have hlt : k < h.l.length := by omega
      have e9 : ix = k := by rw [← HX.out]; exact ixF_at hkk hlt
      subst e9
      have hkg : k < h.g.length := by omega
      have hyk := fre_get (l := h.l) (by omega)
      rw [hkk] at hyk
      have HY := Lib.hid hyk
      have HF := Lib.hid hkk
      obtain ⟨x, hxk, hx⟩ := int_at (w := w3) (k := k) (fun j u hu => (hB3.cell (p := ⟨b, o + j, none⟩) hb).trans (hcell j u hu)) hkg
      clear hcell hcell' hfull hkk hyk HFL
      by_cases hm : x = 1000000
      · have ho' := alloc_last (h := h) (by rw [HF.out, hxk.out, hm])
        have HN := Lib.hid (And.intro ho' (allocH_no ho'))
        subst hm
        clear ho'
        go_upto_region 4 with (fail)
        have q2 := m2
        have q3 := m3
        have q5 := m5
        have BT := hB3
        have OW := ow
        obtain ⟨x0, -⟩ := q5.at_ 0 (x := .slice A1 h.g.length c1) rfl
        obtain ⟨x1, -⟩ := q5.at_ 1 (x := .slice B1 h.l.length d1) rfl
        obtain ⟨y0, f0⟩ := q2.at_ 0 (x := .slice none 0 0) rfl
        obtain ⟨y1, f1⟩ := q2.at_ 1 (x := .slice none 0 0) rfl
        obtain ⟨u0, v0⟩ := q3.at_ 0 (x := .int .i64 0) rfl
        obtain ⟨u1, v1⟩ := q3.at_ 1 (x := .int .i64 0) rfl
        have qF := (((q2.set_ 0 (.slice A1 h.g.length c1)).set_ 1 (.slice B1 h.l.length d1)).far (p := ⟨w.heap.size + 1 + 1, 0, none⟩) (by simp) (.int .i64 0)).far (p := ⟨w.heap.size + 1 + 1, 1, none⟩) (by simp) (.int .i64 0)
        have rF := (((q3.far (p := ⟨w.heap.size + 1, 0, none⟩) (by simp) (.slice A1 h.g.length c1)).far (p := ⟨w.heap.size + 1, 1, none⟩) (by simp) (.slice B1 h.l.length d1)).set_ 0 (.int .i64 0)).set_ 1 (.int .i64 0)
        obtain ⟨z0, -⟩ := qF.at_ 0 (x := .slice A1 h.g.length c1) rfl
        obtain ⟨z1, -⟩ := qF.at_ 1 (x := .slice B1 h.l.length d1) rfl
        obtain ⟨z2, -⟩ := rF.at_ 0 (x := .int .i64 0) rfl
        obtain ⟨z3, -⟩ := rF.at_ 1 (x := .int .i64 0) rfl
        have hw1 : w1.heap.size ≠ w.heap.size + 1 := by omega
        have hw2 : w1.heap.size ≠ w.heap.size + 1 + 1 := by omega
        have HE := Lib.hid (OW.two (g := w.heap.size + 1) (a0 := .slice A1 h.g.length c1) (a1 := .slice B1 h.l.length d1) (b0 := .int .i64 0) (b1 := .int .i64 0) fun b hb => by have := hbs2.out b hb; omega)
        have HX := Lib.hid (below_two BT (g := w.heap.size + 1) (Nat.le_succ _) (.slice A1 h.g.length c1) (.slice B1 h.l.length d1) (.int .i64 0) (.int .i64 0))
        clear q2 q3 q5 qF rF OW BT
        go_wp2_with fail
        exact bodyPost_ret (v := .tuple #[.agg #[.slice A1 h.g.length c1, .slice B1 h.l.length d1], .agg #[.int .i64 0, .int .i64 0], .bool false]) (by simp [results, Tryd.results27, go_sem, z0, z1, z2, z3]) rfl
          ⟨_, _, bs1, by rw [HN.out.1, HN.out.2.2], by rw [HN.out.2.1]; exact HE.out, fun b hb => by have := hbs2.out b hb; omega, HX.out⟩
      · have HN := Lib.hid (alloc_at HOK.out HF.out hlt hxk.out hm)
        have hm' : (x == 1000000) = false := by simp [hm]
        have hx6 := gOk_bounds (hpTo_at (hpOk_parts HOK.out).2.2 hkg hxk.out HY.out)
        obtain ⟨gb, go', gc, lb, lo', ld, E1, E2, ⟨hgb, hlb, hgl, hbs⟩, hat, hat', hset', hset⟩ := ow.alloc_ (by omega) (by omega)
        injection E1 with E1 _ E3
        injection E2 with E2 _ E4
        subst E1 E2 E3 E4
        have hgb3 := hbs2.out gb (by rw [hbs]; simp)
        have hlb3 := hbs2.out lb (by rw [hbs]; simp)
        obtain ⟨p0, f0⟩ := hat k _ (by simp only [ints, List.getElem?_map, hxk.out]; rfl)
        obtain ⟨s0, -⟩ := m5.at_ 0 (x := .slice (some ⟨gb, go', none⟩) h.g.length c1) rfl
        obtain ⟨s1, -⟩ := m5.at_ 1 (x := .slice (some ⟨lb, lo', none⟩) h.l.length d1) rfl
        have ow4 := hset k (x + 1)
        have M2 := m2.far (p := ⟨gb, go' + k, none⟩) (by show w.heap.size + 1 ≠ gb; omega) (.int .i64 (x + 1))
        have M3 := m3.far (p := ⟨gb, go' + k, none⟩) (by show w.heap.size + 1 + 1 ≠ gb; omega) (.int .i64 (x + 1))
        have M5 := m5.far (p := ⟨gb, go' + k, none⟩) (by show w1.heap.size ≠ gb; omega) (.int .i64 (x + 1))
        have hB4 := hB3.setCell (p := ⟨gb, go' + k, none⟩) (by show w.heap.size ≤ gb; omega) (.int .i64 (x + 1))
        obtain ⟨W4, hW4⟩ : ∃ W4, W4 = w3.setCell ⟨gb, go' + k, none⟩ (.int .i64 (x + 1)) := ⟨_, rfl⟩
        have hp4 := World.cell?_setCell_same w3 ⟨gb, go' + k, none⟩ (.int .i64 (x + 1)) p0
        rw [← hW4] at M2 M3 M5 hB4 ow4 hp4
        obtain ⟨S0, -⟩ := M5.at_ 0 (x := .slice (some ⟨gb, go', none⟩) h.g.length c1) rfl
        obtain ⟨S1, -⟩ := M5.at_ 1 (x := .slice (some ⟨lb, lo', none⟩) h.l.length d1) rfl
        obtain ⟨gb2, go2, gc2, lb2, lo2, ld2, E1, E2, ⟨hgb4, hlb4, hgl4, hbs4⟩, hatg, hatl, hset2', hset2⟩ := ow4.alloc_ (show 0 < (h.g.set k (x + 1)).length by simp; omega) (show 0 < h.l.length by omega)
        dsimp only at E1 E2 hatg hatl hset2' hset2
        rw [List.length_set] at E1
        injection E1 with E1 _ E3
        injection E2 with E2 _ E4
        injection E1 with E1
        injection E1 with E1 E5
        injection E2 with E2
        injection E2 with E2 E6
        subst E1 E2 E3 E4 E5 E6
        obtain ⟨P0, F0⟩ := hatl k _ (bools_at HY.out)
        have HW4 := Lib.hid hW4
        clear hW4 hat hat' hset hset' hatg hatl m1 m2 m3 m5 ow hB3 hbs
        go_upto_region 6 with (fail)
        rw [← HW4.out]
        clear p0 f0 s0 s1 t1 hx
        go_upto_region 7 with (fail)
        have N2 := M2.far (p := ⟨lb, lo' + k, none⟩) (by show w.heap.size + 1 ≠ lb; omega) (.bool true)
        have N3 := M3.far (p := ⟨lb, lo' + k, none⟩) (by show w.heap.size + 1 + 1 ≠ lb; omega) (.bool true)
        have N5 := M5.far (p := ⟨lb, lo' + k, none⟩) (by show w1.heap.size ≠ lb; omega) (.bool true)
        have hB5 := hB4.setCell (p := ⟨lb, lo' + k, none⟩) (by show w.heap.size ≤ lb; omega) (.bool true)
        have ow5 := hset2' k true
        have hp5 := (show (W4.setCell ⟨lb, lo' + k, none⟩ (.bool true)).cell? ⟨gb, go' + k, none⟩ = W4.cell? ⟨gb, go' + k, none⟩ from World.cell?_setCell_other W4 _ _ _ (fun e => by injection e; omega)).trans hp4
        obtain ⟨W5, hW5⟩ : ∃ W5, W5 = W4.setCell ⟨lb, lo' + k, none⟩ (.bool true) := ⟨_, rfl⟩
        rw [← hW5] at N2 N3 N5 hB5 ow5 hp5 ⊢
        clear hW5 hset2 hset2' M2 M3 M5 hB4 hp4 ow4 P0 F0 S0 S1
        obtain ⟨s0, -⟩ := N5.at_ 0 (x := .slice (some ⟨gb, go', none⟩) h.g.length c1) rfl
        obtain ⟨s1, -⟩ := N5.at_ 1 (x := .slice (some ⟨lb, lo', none⟩) h.l.length d1) rfl
        obtain ⟨y0, z0⟩ := N2.at_ 0 (x := .slice none 0 0) rfl
        obtain ⟨y1, z1⟩ := N2.at_ 1 (x := .slice none 0 0) rfl
        obtain ⟨u0, v0⟩ := N3.at_ 0 (x := .int .i64 0) rfl
        obtain ⟨u1, v1⟩ := N3.at_ 1 (x := .int .i64 0) rfl
        go_region
        have qF := (((N2.set_ 0 (.slice (some ⟨gb, go', none⟩) h.g.length c1)).set_ 1 (.slice (some ⟨lb, lo', none⟩) h.l.length d1)).far (p := ⟨w.heap.size + 1 + 1, 0, none⟩) (by simp) (.int .i64 k)).far (p := ⟨w.heap.size + 1 + 1, 1, none⟩) (by simp) (.int .i64 (x + 1))
        have rF := (((N3.far (p := ⟨w.heap.size + 1, 0, none⟩) (by simp) (.slice (some ⟨gb, go', none⟩) h.g.length c1)).far (p := ⟨w.heap.size + 1, 1, none⟩) (by simp) (.slice (some ⟨lb, lo', none⟩) h.l.length d1)).set_ 0 (.int .i64 k)).set_ 1 (.int .i64 (x + 1))
        obtain ⟨z2, -⟩ := qF.at_ 0 (x := .slice (some ⟨gb, go', none⟩) h.g.length c1) rfl
        obtain ⟨z3, -⟩ := qF.at_ 1 (x := .slice (some ⟨lb, lo', none⟩) h.l.length d1) rfl
        obtain ⟨z4, -⟩ := rF.at_ 0 (x := .int .i64 k) rfl
        obtain ⟨z5, -⟩ := rF.at_ 1 (x := .int .i64 (x + 1)) rfl
        have HE := Lib.hid (ow5.two (g := w.heap.size + 1) (a0 := .slice (some ⟨gb, go', none⟩) h.g.length c1) (a1 := .slice (some ⟨lb, lo', none⟩) h.l.length d1) (b0 := .int .i64 k) (b1 := .int .i64 (x + 1)) fun b hb => by have := hbs2.out b hb; omega)
        have HX := Lib.hid (below_two hB5 (g := w.heap.size + 1) (Nat.le_succ _) (.slice (some ⟨gb, go', none⟩) h.g.length c1) (.slice (some ⟨lb, lo', none⟩) h.l.length d1) (.int .i64 k) (.int .i64 (x + 1)))
        clear N2 N3 N5 qF rF ow5 hB5 y0 y1 u0 u1 v0 v1 z0 z1 s0 s1
        go_wp2_with fail
        exact bodyPost_ret (v := .tuple #[.agg #[.slice (some ⟨gb, go', none⟩) h.g.length c1, .slice (some ⟨lb, lo', none⟩) h.l.length d1], .agg #[.int .i64 k, .int .i64 (x + 1)], .bool true]) (by simp [results, Tryd.results27, go_sem, z2, z3, z4, z5]) rfl
          ⟨_, _, bs1, by rw [HN.out.1, HN.out.2.2], by rw [HN.out.2.1]; exact HE.out.below (Below.refl _ _).drew, fun b hb => by have := hbs2.out b hb; omega, HX.out.drew⟩
end Go.Proofs.YtpenneklpolhgaaDoor
