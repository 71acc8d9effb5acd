/- Contract of spec.DoMove. Condition: the program and the machine can be read; lengths that a law bounds. -/
import Derived.Test.YtiflooopfpcelaaGreatC21
import Derived.Test.YtiflooopfpcelaaGreatK2
import Derived.Test.YtiflooopfpcelaaGreatC9
namespace Go.Proofs.YtiflooopfpcelaaGreat
set_option maxRecDepth 20000
set_option linter.unusedSimpArgs false
set_option linter.unusedVariables false
open Go.ChangeShapes Go.WideShapes Go.ChangeAt Go.RowKit
set_option linter.unusedVariables false
set_option maxHeartbeats 3200000 in
theorem spec_DoMove (pv mv tv : Value) (p : Pr) (M : Ma) (m : Mv) (w : World) (h : RdSS w pv p.x) (hm : RdMa w mv tv M) (hsz : totMa M ≤ 16777215) :
    Calls Tryz.prog 9 #[.agg #[.int .i64 p.c, pv], .agg #[mv, tv], .agg #[.int .i64 m.t, .bool m.d]] w (RetMaB (doF p M m) (canMv p M m) w) := by
  obtain ⟨A0, c0, B0, d0, rfl, rfl, -⟩ := id hm.slices
  obtain ⟨vsp, ⟨Ap, cp, rfl, -, -, -, -⟩, -⟩ := id h
  have kv := (Bk.new ((w.alloc (.cells #[.int .i64 p.c, .slice Ap p.x.length cp] 43)).alloc (.cells #[.slice A0 M.mem.length c0, .slice B0 M.ths.length d0] 38)) #[.int .i64 m.t, .bool m.d] 46).alloc (.cells #[.slice none 0 0, .slice none 0 0] 38)
  have kp := (((Bk.new w #[.int .i64 p.c, .slice Ap p.x.length cp] 43).alloc (.cells #[.slice A0 M.mem.length c0, .slice B0 M.ths.length d0] 38)).alloc (.cells #[.int .i64 m.t, .bool m.d] 46)).alloc (.cells #[.slice none 0 0, .slice none 0 0] 38)
  have kr := Bk.new (((w.alloc (.cells #[.int .i64 p.c, .slice Ap p.x.length cp] 43)).alloc (.cells #[.slice A0 M.mem.length c0, .slice B0 M.ths.length d0] 38)).alloc (.cells #[.int .i64 m.t, .bool m.d] 46)) #[.slice none 0 0, .slice none 0 0] 38
  have hB0 := ((((Below.refl w.heap.size w).alloc (Nat.le_refl _) (.cells #[.int .i64 p.c, .slice Ap p.x.length cp] 43)).alloc (by simp) (.cells #[.slice A0 M.mem.length c0, .slice B0 M.ths.length d0] 38)).alloc (by simp; omega) (.cells #[.int .i64 m.t, .bool m.d] 46)).alloc (by simp; omega) (.cells #[.slice none 0 0, .slice none 0 0] 38)
  have km := ((Bk.new (w.alloc (.cells #[.int .i64 p.c, .slice Ap p.x.length cp] 43)) #[.slice A0 M.mem.length c0, .slice B0 M.ths.length d0] 38).alloc (.cells #[.int .i64 m.t, .bool m.d] 46)).alloc (.cells #[.slice none 0 0, .slice none 0 0] 38)
  obtain ⟨W0, hW0⟩ : ∃ W0, W0 = (((w.alloc (.cells #[.int .i64 p.c, .slice Ap p.x.length cp] 43)).alloc (.cells #[.slice A0 M.mem.length c0, .slice B0 M.ths.length d0] 38)).alloc (.cells #[.int .i64 m.t, .bool m.d] 46)).alloc (.cells #[.slice none 0 0, .slice none 0 0] 38) := ⟨_, rfl⟩
  rw [← hW0] at kp km kv kr hB0
  simp only [World.size_alloc] at km kv kr
  have hr0 := kr.lt
  have HW := Lib.hid hW0
  have HH := Lib.hid h
  have HM := Lib.hid hm
  have HB0 := Lib.hid hB0
  obtain ⟨p0, -⟩ := kp.at_ 0 (x := .int .i64 p.c) rfl
  obtain ⟨p1, -⟩ := kp.at_ 1 (x := .slice Ap p.x.length cp) rfl
  obtain ⟨y0, -⟩ := km.at_ 0 (x := .slice A0 M.mem.length c0) rfl
  obtain ⟨y1, -⟩ := km.at_ 1 (x := .slice B0 M.ths.length d0) rfl
  obtain ⟨v0, -⟩ := kv.at_ 0 (x := .int .i64 m.t) rfl
  obtain ⟨v1, -⟩ := kv.at_ 1 (x := .bool m.d) rfl
  clear hW0 hB0 h hm
  go_enter Tryz.func9, Tryz.ntmps9
  go_wp2_with fail
  rw [← HW.out]
  try go_wp2_with fail
  refine (spec_CanMove _ _ _ p M m _ (HH.out.below HB0.out) (HM.out.below HB0.out)).mono ?_
  rintro e w1 ⟨rfl, hb1⟩
  have kp1 := kp.below hb1 kp.lt
  have km1 := km.below hb1 km.lt
  have kv1 := kv.below hb1 kv.lt
  have kr1 := kr.below hb1 kr.lt
  have HB1 := Lib.hid (HB0.out.trans (hb1.mono HB0.out.size))
  have hs1 := hb1.size
  clear p0 p1 y0 y1 v0 v1 kp km kv kr hb1
  obtain ⟨p0, -⟩ := kp1.at_ 0 (x := .int .i64 p.c) rfl
  obtain ⟨p1, -⟩ := kp1.at_ 1 (x := .slice Ap p.x.length cp) rfl
  obtain ⟨y0, -⟩ := km1.at_ 0 (x := .slice A0 M.mem.length c0) rfl
  obtain ⟨y1, -⟩ := km1.at_ 1 (x := .slice B0 M.ths.length d0) rfl
  obtain ⟨v0, -⟩ := kv1.at_ 0 (x := .int .i64 m.t) rfl
  obtain ⟨v1, -⟩ := kv1.at_ 1 (x := .bool m.d) rfl
  have HKR := Lib.hid kr1
  clear kp1 km1 kv1 kr1
  cases hcm : canMv p M m with
  | false =>
    have HD : Hid (doF p M m = M) := Lib.hid (by unfold doF; rw [hcm]; rfl)
    have HCM := Lib.hid hcm
    clear hcm
    go_wp2_with fail
    refine (l04Copy _ _ M _ (HM.out.below HB1.out) hsz).mono ?_
    rintro e w2 ⟨mv1, tv1, bs, rfl, hO, hbs, hb2⟩
    obtain ⟨A1, c1, B1, d1, rfl, rfl⟩ := hO.slices
    have kr2 := HKR.out.below hb2 HKR.out.lt
    obtain ⟨q0, u0⟩ := kr2.at_ 0 (x := .slice none 0 0) rfl
    obtain ⟨q1, u1⟩ := kr2.at_ 1 (x := .slice none 0 0) rfl
    have hfar : ∀ b ∈ bs, b ≠ w.heap.size + 1 + 1 + 1 := fun b hb => by have := hbs b hb; omega
    have HE := Lib.hid (And.intro ((hO.far (k := 0) (u := .slice A1 M.mem.length c1) hfar).far (k := 1) (u := .slice B1 M.ths.length d1) hfar)
      (And.intro (fun b hb => by have := hbs b hb; omega : ∀ b ∈ bs, w.heap.size ≤ b) (((HB1.out.trans (hb2.mono HB1.out.size)).setCell (p := ⟨w.heap.size + 1 + 1 + 1, 0, none⟩) (by show w.heap.size ≤ w.heap.size + 1 + 1 + 1; omega) (.slice A1 M.mem.length c1)).setCell (p := ⟨w.heap.size + 1 + 1 + 1, 1, none⟩) (by show w.heap.size ≤ w.heap.size + 1 + 1 + 1; omega) (.slice B1 M.ths.length d1))))
    clear hO hbs hb2 kr2 hfar
    go_wp2_with fail
    exact bodyPost_ret (v := .tuple #[.agg #[.slice A1 M.mem.length c1, .slice B1 M.ths.length d1], .bool false]) (by simp [results, Tryz.results9, go_sem, q0, q1, u0, u1]) rfl (by rw [HD.out, HCM.out]; exact ⟨_, _, bs, rfl, HE.out.1, HE.out.2.1, HE.out.2.2⟩)
  | true =>
    have HCM := Lib.hid hcm
    have HD : Hid (doF p M m = doAt p M m) := Lib.hid (by unfold doF; rw [if_pos hcm])
    clear hcm
    go_wp2_with fail
    refine (spec_l04Do _ _ _ p M m _ (HH.out.below HB1.out) (HM.out.below HB1.out) HCM.out hsz).mono ?_
    rintro e w2 ⟨mv1, tv1, bs, rfl, hO, hbs, hb2⟩
    obtain ⟨M', hM'⟩ : ∃ M', M' = doAt p M m := ⟨_, rfl⟩
    rw [← hM'] at hO
    have HM' := Lib.hid hM'
    clear hM'
    obtain ⟨A1, c1, B1, d1, rfl, rfl⟩ := hO.slices
    have kr2 := HKR.out.below hb2 HKR.out.lt
    obtain ⟨q0, u0⟩ := kr2.at_ 0 (x := .slice none 0 0) rfl
    obtain ⟨q1, u1⟩ := kr2.at_ 1 (x := .slice none 0 0) rfl
    have hfar : ∀ b ∈ bs, b ≠ w.heap.size + 1 + 1 + 1 := fun b hb => by have := hbs b hb; omega
    have HE := Lib.hid (And.intro ((hO.far (k := 0) (u := .slice A1 M'.mem.length c1) hfar).far (k := 1) (u := .slice B1 M'.ths.length d1) hfar)
      (And.intro (fun b hb => by have := hbs b hb; omega : ∀ b ∈ bs, w.heap.size ≤ b) (((HB1.out.trans (hb2.mono HB1.out.size)).setCell (p := ⟨w.heap.size + 1 + 1 + 1, 0, none⟩) (by show w.heap.size ≤ w.heap.size + 1 + 1 + 1; omega) (.slice A1 M'.mem.length c1)).setCell (p := ⟨w.heap.size + 1 + 1 + 1, 1, none⟩) (by show w.heap.size ≤ w.heap.size + 1 + 1 + 1; omega) (.slice B1 M'.ths.length d1))))
    clear hO hbs hb2 kr2 hfar
    go_wp2_with fail
    exact bodyPost_ret (v := .tuple #[.agg #[.slice A1 M'.mem.length c1, .slice B1 M'.ths.length d1], .bool true]) (by simp [results, Tryz.results9, go_sem, q0, q1, u0, u1]) rfl (by rw [HD.out, HCM.out, ← HM'.out]; exact ⟨_, _, bs, rfl, HE.out.1, HE.out.2.1, HE.out.2.2⟩)
end Go.Proofs.YtiflooopfpcelaaGreat
