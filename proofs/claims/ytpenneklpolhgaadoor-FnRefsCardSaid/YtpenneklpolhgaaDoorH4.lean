/- Contract of chapter 8's model function AllocObj (package spec). Conditions: the heap's rows can be read; lengths that a law bounds. -/
import Derived.Test.YtpenneklpolhgaaDoorH2
namespace Go.Proofs.YtpenneklpolhgaaDoor
set_option maxRecDepth 20000
set_option linter.unusedSimpArgs false
set_option linter.unusedVariables false
open Go.ChangeShapes Go.WideShapes Go.ChangeAt Go.RowKit
set_option linter.unusedVariables false
/-- returns a heap of its own, a reference and a flag -/
def RetHpRB (h : Hp) (r : P2) (ok : Bool) (w : World) (e : Ending) (w' : World) : Prop :=
  ∃ gv lv bs, e = .returned (.tuple #[.agg #[gv, lv], .agg #[.int .i64 r.a, .int .i64 r.b], .bool ok]) ∧ OwnHp w' gv lv h bs ∧ (∀ b ∈ bs, w.heap.size ≤ b) ∧ Below w.heap.size w w'
theorem OwnHp.two {w : World} {gv lv a0 a1 b0 b1 : Value} {h : Hp} {bs : List Nat} {g : Nat} (r : OwnHp w gv lv h bs) (hb : ∀ b ∈ bs, b ≠ g ∧ b ≠ g + 1) :
    OwnHp ((((w.setCell ⟨g, 0, none⟩ a0).setCell ⟨g, 1, none⟩ a1).setCell ⟨g + 1, 0, none⟩ b0).setCell ⟨g + 1, 1, none⟩ b1) gv lv h bs :=
  (((r.far (k := 0) (u := a0) fun x hx => (hb x hx).1).far (k := 1) (u := a1) fun x hx => (hb x hx).1).far (k := 0) (u := b0) fun x hx => (hb x hx).2).far (k := 1) (u := b1) fun x hx => (hb x hx).2
theorem below_two {w w' : World} {B g : Nat} (h : Below B w w') (hg : B ≤ g) (a0 a1 b0 b1 : Value) :
    Below B w ((((w'.setCell ⟨g, 0, none⟩ a0).setCell ⟨g, 1, none⟩ a1).setCell ⟨g + 1, 0, none⟩ b0).setCell ⟨g + 1, 1, none⟩ b1) :=
  (((h.setCell (p := ⟨g, 0, none⟩) hg a0).setCell (p := ⟨g, 1, none⟩) hg a1).setCell (p := ⟨g + 1, 0, none⟩) (Nat.le_succ_of_le hg) b0).setCell (p := ⟨g + 1, 1, none⟩) (Nat.le_succ_of_le hg) b1
/-- the heap with one flag set and one generation more -/
theorem OwnHp.alloc_ {w : World} {gv lv : Value} {h : Hp} {bs : List Nat} (r : OwnHp w gv lv h bs) (hg : 0 < h.g.length) (hl : 0 < h.l.length) : ∃ b o c b' o' d, gv = .slice (some ⟨b, o, none⟩) h.g.length c ∧ lv = .slice (some ⟨b', o', none⟩) h.l.length d ∧
    (b < w.heap.size ∧ b' < w.heap.size ∧ b ≠ b' ∧ bs = [b, b']) ∧ At w b o (ints h.g) ∧ At w b' o' (bools h.l) ∧
    (∀ (k : Nat) (y : Bool), OwnHp (w.setCell ⟨b', o' + k, none⟩ (.bool y)) gv lv ⟨h.g, h.l.set k y⟩ bs) ∧ (∀ (k : Nat) (x : Int), OwnHp (w.setCell ⟨b, o + k, none⟩ (.int .i64 x)) gv lv ⟨h.g.set k x, h.l⟩ bs) := by
  obtain ⟨bg, bl, h1, h2, h3, rfl⟩ := r
  obtain ⟨b, o, c, rfl, rfl, hb, hat, -, -⟩ := h1.open_ hg
  obtain ⟨b', o', d, rfl, rfl, hb', hat', -, -⟩ := h2.open_ hl
  have hne : b ≠ b' := fun e => h3 b (by simp) (by simp [e])
  refine ⟨b, o, c, b', o', d, rfl, rfl, ⟨hb, hb', hne, rfl⟩, hat, hat', fun k y => ?_, fun k x => ?_⟩
  · refine ⟨[b], [b'], h1.far (by simpa using hne), ?_, h3, rfl⟩
    have := h2.set_ k (.bool y)
    simpa [bools, List.map_set] using this
  · refine ⟨[b], [b'], ?_, h2.far (by simpa using Ne.symm hne), h3, rfl⟩
    have := h1.set_ k (.int .i64 x)
    simpa [ints, List.map_set] using this
set_option maxHeartbeats 3200000 in
theorem spec_AllocObj (gv lv : Value) (h : Hp) (w : World) (r : RdHp w gv lv h) (hsz : h.g.length ≤ 16777215 ∧ h.l.length ≤ 16777215) :
    Calls Tryd.prog 46 #[.agg #[gv, lv]] w (RetHpRB (allocH h) (allocR h) (allocOk h) w) := by
  obtain ⟨A, c, B, d, rfl, rfl, hc1, hd1, hc2, hd2⟩ := r.slices
  obtain ⟨hs1, hs2⟩ := hsz
  have hB0 := (((Below.refl w.heap.size w).alloc (Nat.le_refl _) (.cells #[.slice A h.g.length c, .slice B h.l.length d] 29)).alloc (by simp) (.cells #[.slice none 0 0, .slice none 0 0] 29)).alloc (by simp; omega) (.cells #[.int .i64 0, .int .i64 0] 33)
  have k1 := ((Bk.new w #[.slice A h.g.length c, .slice B h.l.length d] 29).alloc (.cells #[.slice none 0 0, .slice none 0 0] 29)).alloc (.cells #[.int .i64 0, .int .i64 0] 33)
  have k2 := (Bk.new (w.alloc (.cells #[.slice A h.g.length c, .slice B h.l.length d] 29)) #[.slice none 0 0, .slice none 0 0] 29).alloc (.cells #[.int .i64 0, .int .i64 0] 33)
  have k3 := Bk.new ((w.alloc (.cells #[.slice A h.g.length c, .slice B h.l.length d] 29)).alloc (.cells #[.slice none 0 0, .slice none 0 0] 29)) #[.int .i64 0, .int .i64 0] 33
  simp only [World.size_alloc] at k2 k3
  have r0 := r.below hB0
  go_enter Tryd.func46, Tryd.ntmps46
  go_wp2_with fail
  refine (l08Copy _ _ h _ r0 ⟨hs1, hs2⟩).mono ?_
  rintro e w1 ⟨v1, u1, bs1, rfl, ho1, hbs1, hb1⟩
  obtain ⟨A1, c1, B1, d1, rfl, rfl⟩ := ho1.slices
  have hBm := hB0.trans (hb1.mono hB0.size)
  have j1 := (k1.below hb1 k1.lt).alloc (.cells #[.slice A1 h.g.length c1, .slice B1 h.l.length d1] 29)
  have j2 := (k2.below hb1 k2.lt).alloc (.cells #[.slice A1 h.g.length c1, .slice B1 h.l.length d1] 29)
  have j3 := (k3.below hb1 k3.lt).alloc (.cells #[.slice A1 h.g.length c1, .slice B1 h.l.length d1] 29)
  have j5 := Bk.new w1 #[.slice A1 h.g.length c1, .slice B1 h.l.length d1] 29
  have hl3 := (k3.below hb1 k3.lt).lt
  have hB2 := hBm.alloc hBm.size (.cells #[.slice A1 h.g.length c1, .slice B1 h.l.length d1] 29)
  have ho2 := ho1.below ((Below.refl w1.heap.size w1).alloc (Nat.le_refl _) (.cells #[.slice A1 h.g.length c1, .slice B1 h.l.length d1] 29))
  have hi1 := ho1.lt
  simp only [World.size_alloc] at hbs1
  have r2 := r.below hB2
  obtain ⟨W2, hW2⟩ : ∃ W2, W2 = w1.alloc (.cells #[.slice A1 h.g.length c1, .slice B1 h.l.length d1] 29) := ⟨_, rfl⟩
  have hz2 : W2.heap.size = w1.heap.size + 1 := by rw [hW2]; simp
  obtain ⟨x0, -⟩ := j1.at_ 0 (x := .slice A h.g.length c) rfl
  obtain ⟨x1, -⟩ := j1.at_ 1 (x := .slice B h.l.length d) rfl
  rw [← hW2] at j1 j2 j3 j5 hB2 ho2 r2
  have HW2 := Lib.hid hW2
  have hlt1 : w.heap.size < w1.heap.size := by omega
  have hbs2 : Hid (∀ b ∈ bs1, w.heap.size + 3 ≤ b ∧ b < w1.heap.size) := Lib.hid fun b hb => ⟨by have := hbs1 b hb; omega, hi1 b hb⟩
  have HS := Lib.hid (fun (q : Bool) (hb : hpOk h = q) => show Calls Tryd.prog 34 #[.agg #[.slice A h.g.length c, .slice B h.l.length d]] W2 (fun e w' => e = .returned (.bool q) ∧ Below W2.heap.size W2 w') by rw [← hb]; exact spec_HeapOk _ _ h _ r2)
  clear k1 k2 k3 hb1 hBm ho1 hB0 r0 hW2 hbs1 hi1
  go_wp2_with fail
  rw [← HW2.out]
  clear x0 x1
  cases hok : hpOk h
  · have HH := Lib.hid (HS.out _ hok)
    have HN := Lib.hid (And.intro (alloc_bad hok) (allocH_no (alloc_bad hok)))
    clear HS hok
    refine HH.out.mono ?_
    rintro e w3 ⟨rfl, hb3⟩
    have q2 := (j2.below hb3 j2.lt)
    have q3 := (j3.below hb3 j3.lt)
    have q5 := (j5.below hb3 j5.lt)
    have BT := (hB2.trans (hb3.mono hB2.size))
    have OW := (ho2.below hb3)
    obtain ⟨x0, -⟩ := q5.at_ 0 (x := .slice A1 h.g.length c1) rfl
    obtain ⟨x1, -⟩ := q5.at_ 1 (x := .slice B1 h.l.length d1) rfl
    obtain ⟨y0, f0⟩ := q2.at_ 0 (x := .slice none 0 0) rfl
    obtain ⟨y1, f1⟩ := q2.at_ 1 (x := .slice none 0 0) rfl
    obtain ⟨u0, v0⟩ := q3.at_ 0 (x := .int .i64 0) rfl
    obtain ⟨u1, v1⟩ := q3.at_ 1 (x := .int .i64 0) rfl
    have qF := (((q2.set_ 0 (.slice A1 h.g.length c1)).set_ 1 (.slice B1 h.l.length d1)).far (p := ⟨w.heap.size + 1 + 1, 0, none⟩) (by simp) (.int .i64 0)).far (p := ⟨w.heap.size + 1 + 1, 1, none⟩) (by simp) (.int .i64 0)
    have rF := (((q3.far (p := ⟨w.heap.size + 1, 0, none⟩) (by simp) (.slice A1 h.g.length c1)).far (p := ⟨w.heap.size + 1, 1, none⟩) (by simp) (.slice B1 h.l.length d1)).set_ 0 (.int .i64 0)).set_ 1 (.int .i64 0)
    obtain ⟨z0, -⟩ := qF.at_ 0 (x := .slice A1 h.g.length c1) rfl
    obtain ⟨z1, -⟩ := qF.at_ 1 (x := .slice B1 h.l.length d1) rfl
    obtain ⟨z2, -⟩ := rF.at_ 0 (x := .int .i64 0) rfl
    obtain ⟨z3, -⟩ := rF.at_ 1 (x := .int .i64 0) rfl
    have hw1 : w1.heap.size ≠ w.heap.size + 1 := by omega
    have hw2 : w1.heap.size ≠ w.heap.size + 1 + 1 := by omega
    have HE := Lib.hid (OW.two (g := w.heap.size + 1) (a0 := .slice A1 h.g.length c1) (a1 := .slice B1 h.l.length d1) (b0 := .int .i64 0) (b1 := .int .i64 0) fun b hb => by have := hbs2.out b hb; omega)
    have HX := Lib.hid (below_two BT (g := w.heap.size + 1) (Nat.le_succ _) (.slice A1 h.g.length c1) (.slice B1 h.l.length d1) (.int .i64 0) (.int .i64 0))
    clear q2 q3 q5 qF rF OW BT
    go_wp2_with fail
    exact bodyPost_ret (v := .tuple #[.agg #[.slice A1 h.g.length c1, .slice B1 h.l.length d1], .agg #[.int .i64 0, .int .i64 0], .bool false]) (by simp [results, Tryd.results46, go_sem, z0, z1, z2, z3]) rfl
      ⟨_, _, bs1, by rw [HN.out.1, HN.out.2.2], by rw [HN.out.2.1]; exact HE.out, fun b hb => by have := hbs2.out b hb; omega, HX.out⟩
  · have HH := Lib.hid (HS.out _ hok)
    refine HH.out.mono ?_
    rintro e w3 ⟨rfl, hb3⟩
    have hB3 := hB2.trans (hb3.mono hB2.size)
    have m1 := j1.below hb3 j1.lt
    have m2 := j2.below hb3 j2.lt
    have m3 := j3.below hb3 j3.lt
    have m5 := j5.below hb3 j5.lt
    have ow := ho2.below hb3
    have hok' := hok
    obtain ⟨⟨q1, q2⟩, q3', q4⟩ := hpOk_parts hok
    have q3 : h.l.length ≤ h.g.length ∧ h.g.length ≤ h.l.length := by omega
    have HOK := Lib.hid hok
    obtain ⟨b, o, c', b', o', d', he, he', -, ⟨hb, hb'⟩, hcell, hcell'⟩ := r.open_ (by omega) (by omega)
    injection he with e1 _ e2
    injection he' with e3 _ e4
    subst e1 e2 e3 e4
    have hl1 := m1.lt
    obtain ⟨t0, -⟩ := m1.at_ 1 (x := .slice (some ⟨b', o', none⟩) h.l.length d) rfl
    obtain ⟨t1, -⟩ := m1.at_ 0 (x := .slice (some ⟨b, o, none⟩) h.g.length c) rfl
    clear HS HH hok hok' q3' q4 r r2 j1 j2 j3 j5 ho2 hB2 hb3
    go_wp2_with fail
    go_loop [6] (fun i => ∃ k : Nat, k ≤ h.l.length ∧ i = .int .i64 k ∧ Hid (∀ j, j < k → h.l[j]? = some true)) (fun i => h.l.length - (intOf i).toNat)
    case atStart => exact ⟨0, Nat.zero_le _, rfl, Lib.hid fun j hj => absurd hj (Nat.not_lt_zero _)⟩
    case round =>
      obtain ⟨k, hk, rfl, HT⟩ := hrel
      by_cases hlt : k < h.l.length
      · have hkg : k < h.g.length := by omega
        obtain ⟨x, hxk, hx⟩ := int_at (w := w3) (k := k) (fun j u hu => (hB3.cell (p := ⟨b, o + j, none⟩) hb).trans (hcell j u hu)) hkg
        obtain ⟨y, hyk, hy⟩ := bool_at (w := w3) (fun j u hu => (hB3.cell (p := ⟨b', o' + j, none⟩) hb').trans (hcell' j u hu)) hlt
        clear hcell hcell'
        cases y
        · have HF := Lib.hid (fre_at HT.out hyk.out)
          by_cases hm : x = 1000000
          · have ho' := alloc_last (h := h) (by rw [HF.out, hxk.out, hm])
            have HN := Lib.hid (And.intro ho' (allocH_no ho'))
            subst hm
            clear ho'
            go_upto_region 9 with (fail)
            have q2 := m2
            have q3 := m3
            have q5 := m5
            have BT := hB3
            have OW := ow
            obtain ⟨x0, -⟩ := q5.at_ 0 (x := .slice A1 h.g.length c1) rfl
            obtain ⟨x1, -⟩ := q5.at_ 1 (x := .slice B1 h.l.length d1) rfl
            obtain ⟨y0, f0⟩ := q2.at_ 0 (x := .slice none 0 0) rfl
            obtain ⟨y1, f1⟩ := q2.at_ 1 (x := .slice none 0 0) rfl
            obtain ⟨u0, v0⟩ := q3.at_ 0 (x := .int .i64 0) rfl
            obtain ⟨u1, v1⟩ := q3.at_ 1 (x := .int .i64 0) rfl
            have qF := (((q2.set_ 0 (.slice A1 h.g.length c1)).set_ 1 (.slice B1 h.l.length d1)).far (p := ⟨w.heap.size + 1 + 1, 0, none⟩) (by simp) (.int .i64 0)).far (p := ⟨w.heap.size + 1 + 1, 1, none⟩) (by simp) (.int .i64 0)
            have rF := (((q3.far (p := ⟨w.heap.size + 1, 0, none⟩) (by simp) (.slice A1 h.g.length c1)).far (p := ⟨w.heap.size + 1, 1, none⟩) (by simp) (.slice B1 h.l.length d1)).set_ 0 (.int .i64 0)).set_ 1 (.int .i64 0)
            obtain ⟨z0, -⟩ := qF.at_ 0 (x := .slice A1 h.g.length c1) rfl
            obtain ⟨z1, -⟩ := qF.at_ 1 (x := .slice B1 h.l.length d1) rfl
            obtain ⟨z2, -⟩ := rF.at_ 0 (x := .int .i64 0) rfl
            obtain ⟨z3, -⟩ := rF.at_ 1 (x := .int .i64 0) rfl
            have hw1 : w1.heap.size ≠ w.heap.size + 1 := by omega
            have hw2 : w1.heap.size ≠ w.heap.size + 1 + 1 := by omega
            have HE := Lib.hid (OW.two (g := w.heap.size + 1) (a0 := .slice A1 h.g.length c1) (a1 := .slice B1 h.l.length d1) (b0 := .int .i64 0) (b1 := .int .i64 0) fun b hb => by have := hbs2.out b hb; omega)
            have HX := Lib.hid (below_two BT (g := w.heap.size + 1) (Nat.le_succ _) (.slice A1 h.g.length c1) (.slice B1 h.l.length d1) (.int .i64 0) (.int .i64 0))
            clear q2 q3 q5 qF rF OW BT
            go_wp2_with fail
            exact bodyPost_ret (v := .tuple #[.agg #[.slice A1 h.g.length c1, .slice B1 h.l.length d1], .agg #[.int .i64 0, .int .i64 0], .bool false]) (by simp [results, Tryd.results46, go_sem, z0, z1, z2, z3]) rfl
              ⟨_, _, bs1, by rw [HN.out.1, HN.out.2.2], by rw [HN.out.2.1]; exact HE.out, fun b hb => by have := hbs2.out b hb; omega, HX.out⟩
          · have HN := Lib.hid (alloc_at HOK.out HF.out hlt hxk.out hm)
            have hm' : (x == 1000000) = false := by simp [hm]
            have hx6 := gOk_bounds (hpTo_at (hpOk_parts HOK.out).2.2 hkg hxk.out hyk.out)
            obtain ⟨gb, go', gc, lb, lo', ld, E1, E2, ⟨hgb, hlb, hgl, hbs⟩, hat, hat', hset', hset⟩ := ow.alloc_ (by omega) (by omega)
            injection E1 with E1 _ E3
            injection E2 with E2 _ E4
            subst E1 E2 E3 E4
            have hgb3 := hbs2.out gb (by rw [hbs]; simp)
            have hlb3 := hbs2.out lb (by rw [hbs]; simp)
            have HBS := Lib.hid hbs
            obtain ⟨p0, f0⟩ := hat' k _ (bools_at hyk.out)
            obtain ⟨s0, -⟩ := m5.at_ 0 (x := .slice (some ⟨gb, go', none⟩) h.g.length c1) rfl
            obtain ⟨s1, -⟩ := m5.at_ 1 (x := .slice (some ⟨lb, lo', none⟩) h.l.length d1) rfl
            clear hbs
            go_upto_region 11 with (fail)
            have nx : lb ≠ w.heap.size ∧ lb ≠ w.heap.size + 1 ∧ lb ≠ w.heap.size + 1 + 1 ∧ lb ≠ w1.heap.size := by omega
            have M1 := m1.far (p := ⟨lb, lo' + k, none⟩) (by show w.heap.size ≠ lb; omega) (.bool true)
            have M2 := m2.far (p := ⟨lb, lo' + k, none⟩) (by show w.heap.size + 1 ≠ lb; omega) (.bool true)
            have M3 := m3.far (p := ⟨lb, lo' + k, none⟩) (by show w.heap.size + 1 + 1 ≠ lb; omega) (.bool true)
            have M5 := m5.far (p := ⟨lb, lo' + k, none⟩) (by show w1.heap.size ≠ lb; omega) (.bool true)
            have hB4 := hB3.setCell (p := ⟨lb, lo' + k, none⟩) (by show w.heap.size ≤ lb; omega) (.bool true)
            have ow4 := hset' k true
            have hx4 := (hB4.cell (p := ⟨b, o + k, none⟩) hb).trans ((hB3.cell (p := ⟨b, o + k, none⟩) hb).symm.trans hx)
            obtain ⟨W4, hW4⟩ : ∃ W4, W4 = w3.setCell ⟨lb, lo' + k, none⟩ (.bool true) := ⟨_, rfl⟩
            rw [← hW4] at M1 M2 M3 M5 hB4 ow4 hx4 ⊢
            have HW4 := Lib.hid hW4
            clear hW4 hat hat' hset hset' p0 f0 s0 s1 m1 m2 m3 m5 hB3 hx hy t0 t1 ow
            obtain ⟨gb2, go2, gc2, lb2, lo2, ld2, E1, E2, ⟨hgb4, hlb4, hgl4, hbs4⟩, hat, hat', hset', hset⟩ := ow4.alloc_ (show 0 < h.g.length by omega) (show 0 < (h.l.set k true).length by simp; omega)
            dsimp only at E1 E2 hat hat' hset hset'
            rw [List.length_set] at E2
            injection E1 with E1 _ E3
            injection E2 with E2 _ E4
            injection E1 with E1
            injection E1 with E1 E5
            injection E2 with E2
            injection E2 with E2 E6
            subst E1 E2 E3 E4 E5 E6
            obtain ⟨p0, f0⟩ := hat k _ (by simp only [ints, List.getElem?_map, hxk.out]; rfl)
            obtain ⟨s0, -⟩ := M5.at_ 0 (x := .slice (some ⟨gb, go', none⟩) h.g.length c1) rfl
            obtain ⟨s1, -⟩ := M5.at_ 1 (x := .slice (some ⟨lb, lo', none⟩) h.l.length d1) rfl
            obtain ⟨t0, -⟩ := M1.at_ 0 (x := .slice (some ⟨b, o, none⟩) h.g.length c) rfl
            go_region
            have ny : gb ≠ w.heap.size ∧ gb ≠ w.heap.size + 1 ∧ gb ≠ w.heap.size + 1 + 1 ∧ gb ≠ w1.heap.size := by omega
            have N2 := M2.far (p := ⟨gb, go' + k, none⟩) (by show w.heap.size + 1 ≠ gb; omega) (.int .i64 (x + 1))
            have N3 := M3.far (p := ⟨gb, go' + k, none⟩) (by show w.heap.size + 1 + 1 ≠ gb; omega) (.int .i64 (x + 1))
            have N5 := M5.far (p := ⟨gb, go' + k, none⟩) (by show w1.heap.size ≠ gb; omega) (.int .i64 (x + 1))
            have hB5 := hB4.setCell (p := ⟨gb, go' + k, none⟩) (by show w.heap.size ≤ gb; omega) (.int .i64 (x + 1))
            have ow5 := hset k (x + 1)
            have hp5 := (World.cell?_setCell_same W4 ⟨gb, go' + k, none⟩ (.int .i64 (x + 1)) p0)
            obtain ⟨W5, hW5⟩ : ∃ W5, W5 = W4.setCell ⟨gb, go' + k, none⟩ (.int .i64 (x + 1)) := ⟨_, rfl⟩
            rw [← hW5] at N2 N3 N5 hB5 ow5 hp5 ⊢
            have HW5 := Lib.hid hW5
            clear hW5 hat hat' hset hset' p0 f0 s0 s1 t0 M1 M2 M3 M5 hB4 hx4 ow4
            obtain ⟨s0, -⟩ := N5.at_ 0 (x := .slice (some ⟨gb, go', none⟩) h.g.length c1) rfl
            obtain ⟨s1, -⟩ := N5.at_ 1 (x := .slice (some ⟨lb, lo', none⟩) h.l.length d1) rfl
            obtain ⟨y0, z0⟩ := N2.at_ 0 (x := .slice none 0 0) rfl
            obtain ⟨y1, z1⟩ := N2.at_ 1 (x := .slice none 0 0) rfl
            obtain ⟨u0, v0⟩ := N3.at_ 0 (x := .int .i64 0) rfl
            obtain ⟨u1, v1⟩ := N3.at_ 1 (x := .int .i64 0) rfl
            go_upto_region 12 with (fail)
            go_region
            have qF := (((N2.set_ 0 (.slice (some ⟨gb, go', none⟩) h.g.length c1)).set_ 1 (.slice (some ⟨lb, lo', none⟩) h.l.length d1)).far (p := ⟨w.heap.size + 1 + 1, 0, none⟩) (by simp) (.int .i64 k)).far (p := ⟨w.heap.size + 1 + 1, 1, none⟩) (by simp) (.int .i64 (x + 1))
            have rF := (((N3.far (p := ⟨w.heap.size + 1, 0, none⟩) (by simp) (.slice (some ⟨gb, go', none⟩) h.g.length c1)).far (p := ⟨w.heap.size + 1, 1, none⟩) (by simp) (.slice (some ⟨lb, lo', none⟩) h.l.length d1)).set_ 0 (.int .i64 k)).set_ 1 (.int .i64 (x + 1))
            obtain ⟨z2, -⟩ := qF.at_ 0 (x := .slice (some ⟨gb, go', none⟩) h.g.length c1) rfl
            obtain ⟨z3, -⟩ := qF.at_ 1 (x := .slice (some ⟨lb, lo', none⟩) h.l.length d1) rfl
            obtain ⟨z4, -⟩ := rF.at_ 0 (x := .int .i64 k) rfl
            obtain ⟨z5, -⟩ := rF.at_ 1 (x := .int .i64 (x + 1)) rfl
            have HE := Lib.hid (ow5.two (g := w.heap.size + 1) (a0 := .slice (some ⟨gb, go', none⟩) h.g.length c1) (a1 := .slice (some ⟨lb, lo', none⟩) h.l.length d1) (b0 := .int .i64 k) (b1 := .int .i64 (x + 1)) fun b hb => by have := hbs2.out b hb; omega)
            have HX := Lib.hid (below_two hB5 (g := w.heap.size + 1) (Nat.le_succ _) (.slice (some ⟨gb, go', none⟩) h.g.length c1) (.slice (some ⟨lb, lo', none⟩) h.l.length d1) (.int .i64 k) (.int .i64 (x + 1)))
            clear N2 N3 N5 qF rF ow5 hB5 y0 y1 u0 u1 v0 v1 z0 z1 s0 s1
            go_wp2_with fail
            exact bodyPost_ret (v := .tuple #[.agg #[.slice (some ⟨gb, go', none⟩) h.g.length c1, .slice (some ⟨lb, lo', none⟩) h.l.length d1], .agg #[.int .i64 k, .int .i64 (x + 1)], .bool true]) (by simp [results, Tryd.results46, go_sem, z2, z3, z4, z5]) rfl
              ⟨_, _, bs1, by rw [HN.out.1, HN.out.2.2], by rw [HN.out.2.1]; exact HE.out.below (Below.refl _ _).drew.drew, fun b hb => by have := hbs2.out b hb; omega, HX.out.drew.drew⟩
        · have HT2 : Hid (∀ j, j < k + 1 → h.l[j]? = some true) := Lib.hid fun j hj => by
            rcases Nat.lt_succ_iff_lt_or_eq.1 hj with hj | rfl
            · exact HT.out j hj
            · exact hyk.out
          go_wp2_with fail
          exact ⟨⟨k + 1, by omega, by go_num, HT2⟩, by simp [intOf]; omega⟩
      · have hkl : k = h.l.length := by omega
        have ho' := alloc_full (fre_all (l := h.l) fun j hj => HT.out j (by omega))
        have HN := Lib.hid (And.intro ho' (allocH_no ho'))
        clear ho' hcell hcell'
        subst hkl
        go_upto_region 13 with (fail)
        have q2 := m2
        have q3 := m3
        have q5 := m5
        have BT := hB3
        have OW := ow
        obtain ⟨x0, -⟩ := q5.at_ 0 (x := .slice A1 h.g.length c1) rfl
        obtain ⟨x1, -⟩ := q5.at_ 1 (x := .slice B1 h.l.length d1) rfl
        obtain ⟨y0, f0⟩ := q2.at_ 0 (x := .slice none 0 0) rfl
        obtain ⟨y1, f1⟩ := q2.at_ 1 (x := .slice none 0 0) rfl
        obtain ⟨u0, v0⟩ := q3.at_ 0 (x := .int .i64 0) rfl
        obtain ⟨u1, v1⟩ := q3.at_ 1 (x := .int .i64 0) rfl
        have qF := (((q2.set_ 0 (.slice A1 h.g.length c1)).set_ 1 (.slice B1 h.l.length d1)).far (p := ⟨w.heap.size + 1 + 1, 0, none⟩) (by simp) (.int .i64 0)).far (p := ⟨w.heap.size + 1 + 1, 1, none⟩) (by simp) (.int .i64 0)
        have rF := (((q3.far (p := ⟨w.heap.size + 1, 0, none⟩) (by simp) (.slice A1 h.g.length c1)).far (p := ⟨w.heap.size + 1, 1, none⟩) (by simp) (.slice B1 h.l.length d1)).set_ 0 (.int .i64 0)).set_ 1 (.int .i64 0)
        obtain ⟨z0, -⟩ := qF.at_ 0 (x := .slice A1 h.g.length c1) rfl
        obtain ⟨z1, -⟩ := qF.at_ 1 (x := .slice B1 h.l.length d1) rfl
        obtain ⟨z2, -⟩ := rF.at_ 0 (x := .int .i64 0) rfl
        obtain ⟨z3, -⟩ := rF.at_ 1 (x := .int .i64 0) rfl
        have hw1 : w1.heap.size ≠ w.heap.size + 1 := by omega
        have hw2 : w1.heap.size ≠ w.heap.size + 1 + 1 := by omega
        have HE := Lib.hid (OW.two (g := w.heap.size + 1) (a0 := .slice A1 h.g.length c1) (a1 := .slice B1 h.l.length d1) (b0 := .int .i64 0) (b1 := .int .i64 0) fun b hb => by have := hbs2.out b hb; omega)
        have HX := Lib.hid (below_two BT (g := w.heap.size + 1) (Nat.le_succ _) (.slice A1 h.g.length c1) (.slice B1 h.l.length d1) (.int .i64 0) (.int .i64 0))
        clear q2 q3 q5 qF rF OW BT
        go_wp2_with fail
        exact bodyPost_ret (v := .tuple #[.agg #[.slice A1 h.g.length c1, .slice B1 h.l.length d1], .agg #[.int .i64 0, .int .i64 0], .bool false]) (by simp [results, Tryd.results46, go_sem, z0, z1, z2, z3]) rfl
          ⟨_, _, bs1, by rw [HN.out.1, HN.out.2.2], by rw [HN.out.2.1]; exact HE.out, fun b hb => by have := hbs2.out b hb; omega, HX.out⟩
end Go.Proofs.YtpenneklpolhgaaDoor
