/- Contract of chapter 8's model function FreeObj (package spec). Conditions: the heap's rows can be read; lengths that a law bounds. -/
import Derived.Test.YtpenneklpolhgaaDoorH4
namespace Go.Proofs.YtpenneklpolhgaaDoor
set_option maxRecDepth 20000
set_option linter.unusedSimpArgs false
set_option linter.unusedVariables false
open Go.ChangeShapes Go.WideShapes Go.ChangeAt Go.RowKit
set_option linter.unusedVariables false
/-- returns a heap of its own and a code -/
def RetHpI (h : Hp) (c : Int) (w : World) (e : Ending) (w' : World) : Prop :=
  ∃ gv lv bs, e = .returned (.tuple #[.agg #[gv, lv], .int .i64 c]) ∧ OwnHp w' gv lv h bs ∧ (∀ b ∈ bs, w.heap.size ≤ b) ∧ Below w.heap.size w w'
theorem free_out {h : Hp} {r : P2} (hi : inH h r.a = false) : freeC h r = 1 ∧ freeH h r = h := by
  have hg : goodB h r = false := by unfold goodB; rw [hi]; rfl
  exact ⟨by unfold freeC; rw [hi]; rfl, by unfold freeH; rw [hg]; rfl⟩
theorem free_stale {h : Hp} {r : P2} (hi : inH h r.a = true) (hg : goodB h r = false) : freeC h r = 2 ∧ freeH h r = h :=
  ⟨by unfold freeC; rw [hi, hg]; rfl, by unfold freeH; rw [hg]; rfl⟩
theorem free_good {h : Hp} {r : P2} (hg : goodB h r = true) : freeC h r = 0 ∧ freeH h r = ⟨h.g, h.l.set r.a.toNat false⟩ := by
  have hi : inH h r.a = true := by unfold goodB at hg; rw [Bool.and_eq_true] at hg; exact hg.1
  exact ⟨by unfold freeC; rw [hi, hg]; rfl, by unfold freeH; rw [hg]; rfl⟩
theorem good_parts {h : Hp} {a b : Int} (hg : goodB h ⟨a, b⟩ = true) : ∃ k : Nat, a = k ∧ k < h.g.length ∧ k < h.l.length ∧ h.l[k]? = some true := by
  simp only [goodB, inH, Bool.and_eq_true] at hg
  obtain ⟨⟨ho, hi⟩, hl, -⟩ := hg
  have hi := inB_true hi
  obtain ⟨-, q3, -⟩ := hpOk_parts ho
  obtain ⟨k, rfl⟩ := Int.eq_ofNat_of_zero_le hi.1
  have hk : k < h.l.length := by omega
  refine ⟨k, rfl, by omega, hk, ?_⟩
  simp only [Int.toNat_natCast, List.getD_eq_getElem?_getD, List.getElem?_eq_getElem hk, Option.getD_some] at hl
  rw [List.getElem?_eq_getElem hk, hl]
set_option maxHeartbeats 3200000 in
theorem spec_FreeObj (gv lv : Value) (h : Hp) (r : P2) (w : World) (rd : RdHp w gv lv h) (hsz : h.g.length ≤ 16777215 ∧ h.l.length ≤ 16777215) :
    Calls Tryd.prog 7 #[.agg #[gv, lv], .agg #[.int .i64 r.a, .int .i64 r.b]] w (RetHpI (freeH h r) (freeC h r) w) := by
  obtain ⟨A, c, B, d, rfl, rfl, hc1, hd1, hc2, hd2⟩ := rd.slices
  obtain ⟨hs1, hs2⟩ := hsz
  obtain ⟨ra, rb⟩ := r
  have hB0 := (((Below.refl w.heap.size w).alloc (Nat.le_refl _) (.cells #[.slice A h.g.length c, .slice B h.l.length d] 29)).alloc (by simp) (.cells #[.int .i64 ra, .int .i64 rb] 33)).alloc (by simp; omega) (.cells #[.slice none 0 0, .slice none 0 0] 29)
  have k1 := ((Bk.new w #[.slice A h.g.length c, .slice B h.l.length d] 29).alloc (.cells #[.int .i64 ra, .int .i64 rb] 33)).alloc (.cells #[.slice none 0 0, .slice none 0 0] 29)
  have k2 := (Bk.new (w.alloc (.cells #[.slice A h.g.length c, .slice B h.l.length d] 29)) #[.int .i64 ra, .int .i64 rb] 33).alloc (.cells #[.slice none 0 0, .slice none 0 0] 29)
  have k4 := Bk.new ((w.alloc (.cells #[.slice A h.g.length c, .slice B h.l.length d] 29)).alloc (.cells #[.int .i64 ra, .int .i64 rb] 33)) #[.slice none 0 0, .slice none 0 0] 29
  simp only [World.size_alloc] at k2 k4
  have r0 := rd.below hB0
  go_enter Tryd.func7, Tryd.ntmps7
  go_wp2_with fail
  refine (l08Copy _ _ h _ r0 ⟨hs1, hs2⟩).mono ?_
  rintro e w1 ⟨v1, u1, bs1, rfl, ho1, hbs1, hb1⟩
  obtain ⟨A1, c1, B1, d1, rfl, rfl⟩ := ho1.slices
  have hBm := hB0.trans (hb1.mono hB0.size)
  have j1 := (k1.below hb1 k1.lt).alloc (.cells #[.slice A1 h.g.length c1, .slice B1 h.l.length d1] 29)
  have j2 := (k2.below hb1 k2.lt).alloc (.cells #[.slice A1 h.g.length c1, .slice B1 h.l.length d1] 29)
  have j4 := (k4.below hb1 k4.lt).alloc (.cells #[.slice A1 h.g.length c1, .slice B1 h.l.length d1] 29)
  have j6 := Bk.new w1 #[.slice A1 h.g.length c1, .slice B1 h.l.length d1] 29
  have hl3 := (k4.below hb1 k4.lt).lt
  have hB2 := hBm.alloc hBm.size (.cells #[.slice A1 h.g.length c1, .slice B1 h.l.length d1] 29)
  have ho2 := ho1.below ((Below.refl w1.heap.size w1).alloc (Nat.le_refl _) (.cells #[.slice A1 h.g.length c1, .slice B1 h.l.length d1] 29))
  have hi1 := ho1.lt
  simp only [World.size_alloc] at hbs1
  have r2 := rd.below hB2
  obtain ⟨W2, hW2⟩ : ∃ W2, W2 = w1.alloc (.cells #[.slice A1 h.g.length c1, .slice B1 h.l.length d1] 29) := ⟨_, rfl⟩
  obtain ⟨x0, -⟩ := j1.at_ 0 (x := .slice A h.g.length c) rfl
  obtain ⟨x1, -⟩ := j1.at_ 1 (x := .slice B h.l.length d) rfl
  have hz2 : W2.heap.size = w1.heap.size + 1 := by rw [hW2]; simp
  rw [← hW2] at j1 j2 j4 j6 hB2 ho2 r2
  have HW2 := Lib.hid hW2
  have HZ2 := Lib.hid hz2
  have hbs2 : Hid (∀ b ∈ bs1, w.heap.size + 3 ≤ b ∧ b < w1.heap.size) := Lib.hid fun b hb => ⟨by have := hbs1 b hb; omega, hi1 b hb⟩
  clear k1 k2 k4 hb1 hBm ho1 hB0 r0 hW2 hz2 hbs1 hi1
  have HS := Lib.hid (fun (q : Bool) (hb : hpOk h = q) => show Calls Tryd.prog 34 #[.agg #[.slice A h.g.length c, .slice B h.l.length d]] W2 (fun e w' => e = .returned (.bool q) ∧ Below W2.heap.size W2 w') by rw [← hb]; exact spec_HeapOk _ _ h _ r2)
  go_wp2_with fail
  rw [← HW2.out]
  clear x0 x1
  cases hok : hpOk h
  · have HH := Lib.hid (HS.out _ hok)
    have HN := Lib.hid (free_out (h := h) (r := ⟨ra, rb⟩) (by simp [inH, hok]))
    clear HS hok
    refine HH.out.mono ?_
    rintro e w3 ⟨rfl, hb3⟩
    have q4 := (j4.below hb3 j4.lt)
    have q6 := (j6.below hb3 j6.lt)
    have BT := (hB2.trans (hb3.mono hB2.size))
    have OW := (ho2.below hb3)
    obtain ⟨x0, -⟩ := q6.at_ 0 (x := .slice A1 h.g.length c1) rfl
    obtain ⟨x1, -⟩ := q6.at_ 1 (x := .slice B1 h.l.length d1) rfl
    obtain ⟨y0, f0⟩ := q4.at_ 0 (x := .slice none 0 0) rfl
    obtain ⟨y1, f1⟩ := q4.at_ 1 (x := .slice none 0 0) rfl
    have qF := (q4.set_ 0 (.slice A1 h.g.length c1)).set_ 1 (.slice B1 h.l.length d1)
    obtain ⟨z0, -⟩ := qF.at_ 0 (x := .slice A1 h.g.length c1) rfl
    obtain ⟨z1, -⟩ := qF.at_ 1 (x := .slice B1 h.l.length d1) rfl
    have hw2 : w1.heap.size ≠ w.heap.size + 1 + 1 := by omega
    have HE := Lib.hid ((OW.far (b := w.heap.size + 1 + 1) (k := 0) (u := .slice A1 h.g.length c1) fun b hb => by have := hbs2.out b hb; omega).far (b := w.heap.size + 1 + 1) (k := 1) (u := .slice B1 h.l.length d1) fun b hb => by have := hbs2.out b hb; omega)
    have HX := Lib.hid ((BT.setCell (p := ⟨w.heap.size + 1 + 1, 0, none⟩) (by show w.heap.size ≤ w.heap.size + 1 + 1; omega) (.slice A1 h.g.length c1)).setCell (p := ⟨w.heap.size + 1 + 1, 1, none⟩) (by show w.heap.size ≤ w.heap.size + 1 + 1; omega) (.slice B1 h.l.length d1))
    clear q4 q6 qF OW BT
    go_wp2_with fail
    exact bodyPost_ret (v := .tuple #[.agg #[.slice A1 h.g.length c1, .slice B1 h.l.length d1], .int .i64 1]) (by simp [results, Tryd.results7, go_sem, z0, z1]) rfl
      ⟨_, _, bs1, by rw [HN.out.1], by rw [HN.out.2]; exact HE.out, fun b hb => by have := hbs2.out b hb; omega, HX.out⟩
  · have HH := Lib.hid (HS.out _ hok)
    cases hin : inB ra 0 ((h.g.length : Int) - 1)
    · have HN := Lib.hid (free_out (h := h) (r := ⟨ra, rb⟩) (by simp [inH, hin]))
      have HI := Lib.hid (fun W => by have hq := l01In ra 0 ((h.g.length : Int) - 1) W; rw [hin] at hq; exact hq)
      clear HS hok hin
      refine HH.out.mono ?_
      rintro e w3 ⟨rfl, hb3⟩
      obtain ⟨X0, -⟩ := (j1.below hb3 j1.lt).at_ 0 (x := .slice A h.g.length c) rfl
      obtain ⟨X1, -⟩ := (j2.below hb3 j2.lt).at_ 0 (x := .int .i64 ra) rfl
      have q4 := (j4.below hb3 j4.lt)
      have q6 := (j6.below hb3 j6.lt)
      have BT := (hB2.trans (hb3.mono hB2.size))
      have OW := (ho2.below hb3)
      obtain ⟨x0, -⟩ := q6.at_ 0 (x := .slice A1 h.g.length c1) rfl
      obtain ⟨x1, -⟩ := q6.at_ 1 (x := .slice B1 h.l.length d1) rfl
      obtain ⟨y0, f0⟩ := q4.at_ 0 (x := .slice none 0 0) rfl
      obtain ⟨y1, f1⟩ := q4.at_ 1 (x := .slice none 0 0) rfl
      have qF := (q4.set_ 0 (.slice A1 h.g.length c1)).set_ 1 (.slice B1 h.l.length d1)
      obtain ⟨z0, -⟩ := qF.at_ 0 (x := .slice A1 h.g.length c1) rfl
      obtain ⟨z1, -⟩ := qF.at_ 1 (x := .slice B1 h.l.length d1) rfl
      have hw2 : w1.heap.size ≠ w.heap.size + 1 + 1 := by omega
      have HE := Lib.hid ((OW.far (b := w.heap.size + 1 + 1) (k := 0) (u := .slice A1 h.g.length c1) fun b hb => by have := hbs2.out b hb; omega).far (b := w.heap.size + 1 + 1) (k := 1) (u := .slice B1 h.l.length d1) fun b hb => by have := hbs2.out b hb; omega)
      have HX := Lib.hid ((BT.setCell (p := ⟨w.heap.size + 1 + 1, 0, none⟩) (by show w.heap.size ≤ w.heap.size + 1 + 1; omega) (.slice A1 h.g.length c1)).setCell (p := ⟨w.heap.size + 1 + 1, 1, none⟩) (by show w.heap.size ≤ w.heap.size + 1 + 1; omega) (.slice B1 h.l.length d1))
      clear q4 q6 qF OW BT
      go_wp2_with (go_at_call 35; refine (HI.out _).mono ?_; rintro e w' ⟨rfl, rfl⟩)
      exact bodyPost_ret (v := .tuple #[.agg #[.slice A1 h.g.length c1, .slice B1 h.l.length d1], .int .i64 1]) (by simp [results, Tryd.results7, go_sem, z0, z1]) rfl
        ⟨_, _, bs1, by rw [HN.out.1], by rw [HN.out.2]; exact HE.out, fun b hb => by have := hbs2.out b hb; omega, HX.out⟩
    · have HIN : Hid (inH h ra = true) := Lib.hid (by simp [inH, hok, hin])
      have HI := Lib.hid (fun W => by have hq := l01In ra 0 ((h.g.length : Int) - 1) W; rw [hin] at hq; exact hq)
      clear HS hok hin
      refine HH.out.mono ?_
      rintro e w3 ⟨rfl, hb3⟩
      have m1 := j1.below hb3 j1.lt
      have m2 := j2.below hb3 j2.lt
      have m4 := j4.below hb3 j4.lt
      have m6 := j6.below hb3 j6.lt
      have hB3 := hB2.trans (hb3.mono hB2.size)
      have ow3 := ho2.below hb3
      obtain ⟨X0, -⟩ := m1.at_ 0 (x := .slice A h.g.length c) rfl
      obtain ⟨X2, -⟩ := m1.at_ 1 (x := .slice B h.l.length d) rfl
      obtain ⟨X1, -⟩ := m2.at_ 0 (x := .int .i64 ra) rfl
      obtain ⟨X3, -⟩ := m2.at_ 1 (x := .int .i64 rb) rfl
      have HG := Lib.hid (spec_GoodRef _ _ h ⟨ra, rb⟩ w3 (r2.below hb3))
      clear j1 j2 j4 j6 hB2 ho2 r2 hb3 HH rd
      go_wp2_with (go_at_call 35; refine (HI.out _).mono ?_; rintro e w' ⟨rfl, rfl⟩)
      cases hg : goodB h ⟨ra, rb⟩
      · have HN := Lib.hid (free_stale HIN.out hg)
        rw [hg] at HG
        clear hg
        refine HG.out.mono ?_
        rintro e w4 ⟨rfl, hb4⟩
        have q4 := (m4.below hb4 m4.lt)
        have q6 := (m6.below hb4 m6.lt)
        have BT := (hB3.trans (hb4.mono hB3.size))
        have OW := (ow3.below hb4)
        obtain ⟨x0, -⟩ := q6.at_ 0 (x := .slice A1 h.g.length c1) rfl
        obtain ⟨x1, -⟩ := q6.at_ 1 (x := .slice B1 h.l.length d1) rfl
        obtain ⟨y0, f0⟩ := q4.at_ 0 (x := .slice none 0 0) rfl
        obtain ⟨y1, f1⟩ := q4.at_ 1 (x := .slice none 0 0) rfl
        have qF := (q4.set_ 0 (.slice A1 h.g.length c1)).set_ 1 (.slice B1 h.l.length d1)
        obtain ⟨z0, -⟩ := qF.at_ 0 (x := .slice A1 h.g.length c1) rfl
        obtain ⟨z1, -⟩ := qF.at_ 1 (x := .slice B1 h.l.length d1) rfl
        have hw2 : w1.heap.size ≠ w.heap.size + 1 + 1 := by omega
        have HE := Lib.hid ((OW.far (b := w.heap.size + 1 + 1) (k := 0) (u := .slice A1 h.g.length c1) fun b hb => by have := hbs2.out b hb; omega).far (b := w.heap.size + 1 + 1) (k := 1) (u := .slice B1 h.l.length d1) fun b hb => by have := hbs2.out b hb; omega)
        have HX := Lib.hid ((BT.setCell (p := ⟨w.heap.size + 1 + 1, 0, none⟩) (by show w.heap.size ≤ w.heap.size + 1 + 1; omega) (.slice A1 h.g.length c1)).setCell (p := ⟨w.heap.size + 1 + 1, 1, none⟩) (by show w.heap.size ≤ w.heap.size + 1 + 1; omega) (.slice B1 h.l.length d1))
        clear q4 q6 qF OW BT
        go_wp2_with fail
        exact bodyPost_ret (v := .tuple #[.agg #[.slice A1 h.g.length c1, .slice B1 h.l.length d1], .int .i64 2]) (by simp [results, Tryd.results7, go_sem, z0, z1]) rfl
          ⟨_, _, bs1, by rw [HN.out.1], by rw [HN.out.2]; exact HE.out, fun b hb => by have := hbs2.out b hb; omega, HX.out⟩
      · have HN := Lib.hid (free_good hg)
        obtain ⟨k, rfl, hkg, hkl, hyk⟩ := good_parts hg
        have HY := Lib.hid hyk
        rw [hg] at HG
        clear hg hyk
        refine HG.out.mono ?_
        rintro e w4 ⟨rfl, hb4⟩
        have n2 := m2.below hb4 m2.lt
        have n4 := m4.below hb4 m4.lt
        have n6 := m6.below hb4 m6.lt
        have hB4 := hB3.trans (hb4.mono hB3.size)
        have ow := ow3.below hb4
        obtain ⟨gb, go', gc, lb, lo', ld, E1, E2, ⟨hgb, hlb, hgl, hbs⟩, hat, hat', hset', hset⟩ := ow.alloc_ (by omega) (by omega)
        injection E1 with E1 _ E3
        injection E2 with E2 _ E4
        subst E1 E2 E3 E4
        have hlb3 := hbs2.out lb (by rw [hbs]; simp)
        obtain ⟨p0, f0⟩ := hat' k _ (bools_at HY.out)
        have ow4 := hset' k false
        obtain ⟨s1, -⟩ := n6.at_ 1 (x := .slice (some ⟨lb, lo', none⟩) h.l.length d1) rfl
        obtain ⟨s2, -⟩ := n2.at_ 0 (x := .int .i64 k) rfl
        clear X0 X1 X2 X3 HG
        go_upto_region 7 with (fail)
        have q4 := (n4.far (p := ⟨lb, lo' + k, none⟩) (by show w.heap.size + 1 + 1 ≠ lb; omega) (.bool false))
        have q6 := (n6.far (p := ⟨lb, lo' + k, none⟩) (by show w1.heap.size ≠ lb; omega) (.bool false))
        have BT := (hB4.setCell (p := ⟨lb, lo' + k, none⟩) (by show w.heap.size ≤ lb; omega) (.bool false))
        have OW := ow4
        obtain ⟨x0, -⟩ := q6.at_ 0 (x := .slice (some ⟨gb, go', none⟩) h.g.length c1) rfl
        obtain ⟨x1, -⟩ := q6.at_ 1 (x := .slice (some ⟨lb, lo', none⟩) h.l.length d1) rfl
        obtain ⟨y0, f0⟩ := q4.at_ 0 (x := .slice none 0 0) rfl
        obtain ⟨y1, f1⟩ := q4.at_ 1 (x := .slice none 0 0) rfl
        have qF := (q4.set_ 0 (.slice (some ⟨gb, go', none⟩) h.g.length c1)).set_ 1 (.slice (some ⟨lb, lo', none⟩) h.l.length d1)
        obtain ⟨z0, -⟩ := qF.at_ 0 (x := .slice (some ⟨gb, go', none⟩) h.g.length c1) rfl
        obtain ⟨z1, -⟩ := qF.at_ 1 (x := .slice (some ⟨lb, lo', none⟩) h.l.length d1) rfl
        have hw2 : w1.heap.size ≠ w.heap.size + 1 + 1 := by omega
        have HE := Lib.hid ((OW.far (b := w.heap.size + 1 + 1) (k := 0) (u := .slice (some ⟨gb, go', none⟩) h.g.length c1) fun b hb => by have := hbs2.out b hb; omega).far (b := w.heap.size + 1 + 1) (k := 1) (u := .slice (some ⟨lb, lo', none⟩) h.l.length d1) fun b hb => by have := hbs2.out b hb; omega)
        have HX := Lib.hid ((BT.setCell (p := ⟨w.heap.size + 1 + 1, 0, none⟩) (by show w.heap.size ≤ w.heap.size + 1 + 1; omega) (.slice (some ⟨gb, go', none⟩) h.g.length c1)).setCell (p := ⟨w.heap.size + 1 + 1, 1, none⟩) (by show w.heap.size ≤ w.heap.size + 1 + 1; omega) (.slice (some ⟨lb, lo', none⟩) h.l.length d1))
        clear q4 q6 qF OW BT
        go_wp2_with fail
        exact bodyPost_ret (v := .tuple #[.agg #[.slice (some ⟨gb, go', none⟩) h.g.length c1, .slice (some ⟨lb, lo', none⟩) h.l.length d1], .int .i64 0]) (by simp [results, Tryd.results7, go_sem, z0, z1]) rfl
          ⟨_, _, bs1, by rw [HN.out.1], by rw [HN.out.2]; exact HE.out, fun b hb => by have := hbs2.out b hb; omega, HX.out⟩
end Go.Proofs.YtpenneklpolhgaaDoor
