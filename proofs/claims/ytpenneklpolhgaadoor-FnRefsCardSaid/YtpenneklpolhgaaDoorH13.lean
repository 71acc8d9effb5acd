/- Contract of chapter 8's function FreeObj (package impl). Conditions: the heap's rows can be read; lengths that a law bounds; the library's variable errors.errorType holds the handle of the type error. -/
import Derived.Test.YtpenneklpolhgaaDoorH12
import Derived.Test.YtpenneklpolhgaaDoorH9
import Derived.Test.YtpenneklpolhgaaDoorH8
import Derived.Test.YtpenneklpolhgaaDoorEAs2
namespace Go.Proofs.YtpenneklpolhgaaDoor
set_option maxRecDepth 20000
set_option linter.unusedSimpArgs false
set_option linter.unusedVariables false
open Go.ChangeShapes Go.WideShapes Go.ChangeAt Go.RowKit
set_option linter.unusedVariables false
theorem only_alloc {bs : List Nat} {w w' : World} (h : Only bs w w') (o : Obj) : Only bs w (w'.alloc o) := h.trans (Only.of_below ((Below.refl _ _).alloc (Nat.le_refl _) o) bs)
theorem as_hitB (n m : Int) (g : Nat) (T : TypeId) (w : World) (hg : ErrTy w) (k : Bk w g #[.int .i64 m] T) :
    Calls Tryd.prog 40 #[.iface 69 (.int .i64 n), .iface 74 (.pointer (some ⟨g, 0, none⟩))] w fun e w' => e = .returned (.bool true) ∧ Bk w' g #[.int .i64 n] T ∧ Only [g] w w' := by
  refine (as_hit n ⟨g, 0, none⟩ (.int .i64 m) w hg (k.at_ 0 rfl).1 (k.at_ 0 rfl).2).mono ?_
  rintro e w' ⟨rfl, rfl⟩
  refine ⟨rfl, ?_, (only_alloc (only_alloc (only_alloc (only_alloc (Only.refl [g] w) _) _) _) _).trans (Only.setCell _ _)⟩
  have := ((((k.alloc (.cells #[.pointer (some ⟨g, 0, none⟩)] 74)).alloc (.cells #[.pointer (some ⟨1, 74, none⟩), .pointer (some ⟨w.heap.size, 0, none⟩), .int .u64 150] 97)).alloc (.cells #[.pointer (some ⟨1, 74, none⟩), .pointer (some ⟨w.heap.size, 0, none⟩), .int .u64 150] 97)).alloc (.cells #[.int .i64 n] 69)).set_ 0 (.int .i64 n)
  simpa using this
set_option maxHeartbeats 3200000 in
theorem impl_FreeObj (gv lv : Value) (h : Hp) (r : P2) (w : World) (rd : RdHp w gv lv h) (hsz : h.g.length ≤ 16777215 ∧ h.l.length ≤ 16777215) (hE : ErrTy w) :
    Calls Tryd.prog 10 #[.agg #[gv, lv], .agg #[.int .i64 r.a, .int .i64 r.b]] w (RetHpI (freeH h r) (freeC h r) w) := by
  obtain ⟨A, c, B, d, rfl, rfl, hc1, hd1, hc2, hd2⟩ := rd.slices
  obtain ⟨hs1, hs2⟩ := hsz
  obtain ⟨ra, rb⟩ := r
  have hB0 := (((Below.refl w.heap.size w).alloc (Nat.le_refl _) (.cells #[.slice A h.g.length c, .slice B h.l.length d] 29)).alloc (by simp) (.cells #[.int .i64 ra, .int .i64 rb] 33)).alloc (by simp; omega) (.cells #[.slice none 0 0, .slice none 0 0] 29)
  have k1 := ((Bk.new w #[.slice A h.g.length c, .slice B h.l.length d] 29).alloc (.cells #[.int .i64 ra, .int .i64 rb] 33)).alloc (.cells #[.slice none 0 0, .slice none 0 0] 29)
  have k2 := (Bk.new (w.alloc (.cells #[.slice A h.g.length c, .slice B h.l.length d] 29)) #[.int .i64 ra, .int .i64 rb] 33).alloc (.cells #[.slice none 0 0, .slice none 0 0] 29)
  have k4 := Bk.new ((w.alloc (.cells #[.slice A h.g.length c, .slice B h.l.length d] 29)).alloc (.cells #[.int .i64 ra, .int .i64 rb] 33)) #[.slice none 0 0, .slice none 0 0] 29
  simp only [World.size_alloc] at k2 k4
  have r0 := rd.below hB0
  go_enter Tryd.func10, Tryd.ntmps10
  go_wp2_with fail
  refine (copyHeap _ _ h _ r0 ⟨hs1, hs2⟩).mono ?_
  rintro e w1 ⟨v1, u1, bs1, rfl, ho1, hbs1, hb1⟩
  obtain ⟨A1, c1, B1, d1, rfl, rfl⟩ := ho1.slices
  have hBm := hB0.trans (hb1.mono hB0.size)
  have j1 := (k1.below hb1 k1.lt).alloc (.cells #[.slice A1 h.g.length c1, .slice B1 h.l.length d1] 29)
  have j2 := (k2.below hb1 k2.lt).alloc (.cells #[.slice A1 h.g.length c1, .slice B1 h.l.length d1] 29)
  have j4 := (k4.below hb1 k4.lt).alloc (.cells #[.slice A1 h.g.length c1, .slice B1 h.l.length d1] 29)
  have j6 := Bk.new w1 #[.slice A1 h.g.length c1, .slice B1 h.l.length d1] 29
  have hl3 := (k4.below hb1 k4.lt).lt
  have hB2 := hBm.alloc hBm.size (.cells #[.slice A1 h.g.length c1, .slice B1 h.l.length d1] 29)
  have ho2 := ho1.below ((Below.refl w1.heap.size w1).alloc (Nat.le_refl _) (.cells #[.slice A1 h.g.length c1, .slice B1 h.l.length d1] 29))
  have hi1 := ho1.lt
  simp only [World.size_alloc] at hbs1
  have r2 := rd.below hB2
  obtain ⟨W2, hW2⟩ : ∃ W2, W2 = w1.alloc (.cells #[.slice A1 h.g.length c1, .slice B1 h.l.length d1] 29) := ⟨_, rfl⟩
  obtain ⟨x0, -⟩ := j1.at_ 0 (x := .slice A h.g.length c) rfl
  obtain ⟨x1, -⟩ := j1.at_ 1 (x := .slice B h.l.length d) rfl
  have hz2 : W2.heap.size = w1.heap.size + 1 := by rw [hW2]; simp
  rw [← hW2] at j1 j2 j4 j6 hB2 ho2 r2
  have HW2 := Lib.hid hW2
  have HZ2 := Lib.hid hz2
  have hbs2 : Hid (∀ b ∈ bs1, w.heap.size + 3 ≤ b ∧ b < w1.heap.size) := Lib.hid fun b hb => ⟨by have := hbs1 b hb; omega, hi1 b hb⟩
  clear k1 k2 k4 hb1 hBm ho1 hB0 r0 hW2 hz2 hbs1 hi1
  have hbA := (Below.refl W2.heap.size W2).alloc (Nat.le_refl _) (.cells #[.int .i64 0] 69)
  have n1 := j1.alloc (.cells #[.int .i64 0] 69)
  have n2 := j2.alloc (.cells #[.int .i64 0] 69)
  have n4 := j4.alloc (.cells #[.int .i64 0] 69)
  have n6 := j6.alloc (.cells #[.int .i64 0] 69)
  have n7 := Bk.new W2 #[.int .i64 0] 69
  have on := ho2.below hbA
  have hBn := hB2.trans (hbA.mono hB2.size)
  have rn := rd.below hBn
  have hCK := heap_check _ _ h ⟨ra, rb⟩ _ rn
  obtain ⟨W3, hW3⟩ : ∃ W3, W3 = W2.alloc (.cells #[.int .i64 0] 69) := ⟨_, rfl⟩
  rw [← hW3] at n1 n2 n4 n6 n7 on hBn hCK
  have HW3 := Lib.hid hW3
  have hz2 := HZ2.out
  have HCK := Lib.hid hCK
  have HE3 := Lib.hid (hE.below hBn (Nat.le_refl _))
  obtain ⟨y0, -⟩ := n1.at_ 0 (x := .slice A h.g.length c) rfl
  obtain ⟨y1, -⟩ := n1.at_ 1 (x := .slice B h.l.length d) rfl
  obtain ⟨y2, -⟩ := n2.at_ 0 (x := .int .i64 ra) rfl
  obtain ⟨y3, -⟩ := n2.at_ 1 (x := .int .i64 rb) rfl
  have l1 := n1.lt
  have l2 := n2.lt
  clear j1 j2 j4 j6 ho2 hB2 hbA rn hCK hW3 x0 x1 r2 hE
  rw [hz2] at n7
  clear hz2
  go_upto_region 3 with (fail)
  rw [← HW2.out, ← HW3.out]
  go_wp2_with fail
  refine HCK.out.mono ?_
  rintro e w4 ⟨rfl, hb4⟩
  have m2 := n2.below hb4 n2.lt
  have m4 := n4.below hb4 n4.lt
  have m6 := n6.below hb4 n6.lt
  have m7 := n7.below hb4 n7.lt
  have hB4 := hBn.trans (hb4.mono hBn.size)
  have ow := on.below hb4
  have HE4 := Lib.hid (HE3.out.below hb4 (Nat.le_refl _))
  clear n1 n2 n4 n6 n7 on hBn hb4 y0 y1 y2 y3 l1 l2 HCK rd
  cases hg : goodB h ⟨ra, rb⟩
  · obtain ⟨cc, hc1, hc2⟩ : ∃ cc, refE h ⟨ra, rb⟩ = .iface 69 (.int .i64 cc) ∧ (freeC h ⟨ra, rb⟩ = cc ∧ freeH h ⟨ra, rb⟩ = h) := by
      cases hi : inH h ra
      · exact ⟨1, refE_out hi, free_out hi⟩
      · exact ⟨2, refE_stale hi hg, free_stale hi hg⟩
    have HN := Lib.hid hc2
    rw [hc1]
    clear hg hc1 hc2
    go_wp2_with fail
    refine (as_hitB cc 0 _ _ w4 HE4.out m7).mono ?_
    rintro e w5 ⟨rfl, k7, on5⟩
    have hs5 := on5.size
    have ow5 := ow.only on5 (fun b hb hm => by have := hbs2.out b hb; have := List.mem_singleton.1 hm; omega)
    have hB5 := hB4.trans (on5.below hB4.size (by simp; omega))
    have M4 := m4.only on5 (by simp; omega)
    have M6 := m6.only on5 (by simp)
    obtain ⟨t0, -⟩ := k7.at_ 0 (x := .int .i64 cc) rfl
    clear m2 m4 m6 m7 ow hB4 on5
    have q4 := M4
    have q6 := M6
    have BT := hB5
    have OW := ow5
    obtain ⟨x0, -⟩ := q6.at_ 0 (x := .slice A1 h.g.length c1) rfl
    obtain ⟨x1, -⟩ := q6.at_ 1 (x := .slice B1 h.l.length d1) rfl
    obtain ⟨y0, f0⟩ := q4.at_ 0 (x := .slice none 0 0) rfl
    obtain ⟨y1, f1⟩ := q4.at_ 1 (x := .slice none 0 0) rfl
    have qF := (q4.set_ 0 (.slice A1 h.g.length c1)).set_ 1 (.slice B1 h.l.length d1)
    obtain ⟨z0, -⟩ := qF.at_ 0 (x := .slice A1 h.g.length c1) rfl
    obtain ⟨z1, -⟩ := qF.at_ 1 (x := .slice B1 h.l.length d1) rfl
    have hw2 : w1.heap.size ≠ w.heap.size + 1 + 1 := by omega
    have HE := Lib.hid ((OW.far (b := w.heap.size + 1 + 1) (k := 0) (u := .slice A1 h.g.length c1) fun b hb => by have := hbs2.out b hb; omega).far (b := w.heap.size + 1 + 1) (k := 1) (u := .slice B1 h.l.length d1) fun b hb => by have := hbs2.out b hb; omega)
    have HX := Lib.hid ((BT.setCell (p := ⟨w.heap.size + 1 + 1, 0, none⟩) (by show w.heap.size ≤ w.heap.size + 1 + 1; omega) (.slice A1 h.g.length c1)).setCell (p := ⟨w.heap.size + 1 + 1, 1, none⟩) (by show w.heap.size ≤ w.heap.size + 1 + 1; omega) (.slice B1 h.l.length d1))
    clear q4 q6 qF OW BT
    clear M4 M6 ow5 hB5 k7
    go_upto_region 4 with (fail)
    go_region
    go_wp2_with fail
    exact bodyPost_ret (v := .tuple #[.agg #[.slice A1 h.g.length c1, .slice B1 h.l.length d1], .int .i64 cc]) (by simp [results, Tryd.results10, go_sem, z0, z1]) rfl
      ⟨_, _, bs1, by rw [HN.out.1], by rw [HN.out.2]; exact HE.out.below (Below.refl _ _).drew, fun b hb => by have := hbs2.out b hb; omega, HX.out.drew⟩
  · have HN := Lib.hid (free_good hg)
    obtain ⟨k, rfl, hkg, hkl, hyk⟩ := good_parts hg
    have HY := Lib.hid hyk
    rw [refE_good hg]
    clear hg hyk
    go_wp2_with fail
    refine (as_nil _ w4).mono ?_
    rintro e w5 ⟨rfl, rfl⟩
    obtain ⟨gb, go', gc, lb, lo', ld, E1, E2, ⟨hgb, hlb, hgl, hbs⟩, hat, hat', hset', hset⟩ := ow.alloc_ (by omega) (by omega)
    injection E1 with E1 _ E3
    injection E2 with E2 _ E4
    subst E1 E2 E3 E4
    have hlb3 := hbs2.out lb (by rw [hbs]; simp)
    obtain ⟨p0, f0⟩ := hat' k _ (bools_at HY.out)
    have ow4 := hset' k false
    obtain ⟨s1, -⟩ := m6.at_ 1 (x := .slice (some ⟨lb, lo', none⟩) h.l.length d1) rfl
    obtain ⟨s2, -⟩ := m2.at_ 0 (x := .int .i64 k) rfl
    go_upto_region 6 with (fail)
    have q4 := (m4.far (p := ⟨lb, lo' + k, none⟩) (by show w.heap.size + 1 + 1 ≠ lb; omega) (.bool false))
    have q6 := (m6.far (p := ⟨lb, lo' + k, none⟩) (by show w1.heap.size ≠ lb; omega) (.bool false))
    have BT := (hB4.setCell (p := ⟨lb, lo' + k, none⟩) (by show w.heap.size ≤ lb; omega) (.bool false))
    have OW := ow4
    obtain ⟨x0, -⟩ := q6.at_ 0 (x := .slice (some ⟨gb, go', none⟩) h.g.length c1) rfl
    obtain ⟨x1, -⟩ := q6.at_ 1 (x := .slice (some ⟨lb, lo', none⟩) h.l.length d1) rfl
    obtain ⟨y0, f0⟩ := q4.at_ 0 (x := .slice none 0 0) rfl
    obtain ⟨y1, f1⟩ := q4.at_ 1 (x := .slice none 0 0) rfl
    have qF := (q4.set_ 0 (.slice (some ⟨gb, go', none⟩) h.g.length c1)).set_ 1 (.slice (some ⟨lb, lo', none⟩) h.l.length d1)
    obtain ⟨z0, -⟩ := qF.at_ 0 (x := .slice (some ⟨gb, go', none⟩) h.g.length c1) rfl
    obtain ⟨z1, -⟩ := qF.at_ 1 (x := .slice (some ⟨lb, lo', none⟩) h.l.length d1) rfl
    have hw2 : w1.heap.size ≠ w.heap.size + 1 + 1 := by omega
    have HE := Lib.hid ((OW.far (b := w.heap.size + 1 + 1) (k := 0) (u := .slice (some ⟨gb, go', none⟩) h.g.length c1) fun b hb => by have := hbs2.out b hb; omega).far (b := w.heap.size + 1 + 1) (k := 1) (u := .slice (some ⟨lb, lo', none⟩) h.l.length d1) fun b hb => by have := hbs2.out b hb; omega)
    have HX := Lib.hid ((BT.setCell (p := ⟨w.heap.size + 1 + 1, 0, none⟩) (by show w.heap.size ≤ w.heap.size + 1 + 1; omega) (.slice (some ⟨gb, go', none⟩) h.g.length c1)).setCell (p := ⟨w.heap.size + 1 + 1, 1, none⟩) (by show w.heap.size ≤ w.heap.size + 1 + 1; omega) (.slice (some ⟨lb, lo', none⟩) h.l.length d1))
    clear q4 q6 qF OW BT
    go_wp2_with fail
    exact bodyPost_ret (v := .tuple #[.agg #[.slice (some ⟨gb, go', none⟩) h.g.length c1, .slice (some ⟨lb, lo', none⟩) h.l.length d1], .int .i64 0]) (by simp [results, Tryd.results10, go_sem, z0, z1]) rfl
      ⟨_, _, bs1, by rw [HN.out.1], by rw [HN.out.2]; exact HE.out, fun b hb => by have := hbs2.out b hb; omega, HX.out⟩
end Go.Proofs.YtpenneklpolhgaaDoor
