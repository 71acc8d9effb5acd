/- Contract of impl.copyBench, told by typed rows. Condition: the bench's rows can be read; lengths that a law bounds. -/
import Derived.Test.YtiamkgkhamnaeaaN11
namespace Go.Proofs.Ytiamkgkhamnaeaa
set_option maxRecDepth 20000
set_option linter.unusedSimpArgs false
set_option linter.unusedVariables false
open Go.ChangeShapes Go.WideShapes Go.ChangeAt Go.RowKit
set_option linter.unusedVariables false
set_option maxHeartbeats 800000 in
theorem cloneHT (v : Value) (xs : List P2) (w : World) (h : Rd w v 2 xs.length (flc2 xs)) (hsz : xs.length ≤ 16777216) :
    Calls Try.prog 98 #[v] w (RetRow2 92 xs w) := by
  obtain ⟨A, c, rfl, -, hnc, hc, hr⟩ := id h
  unfold maxLen at hc
  obtain ⟨i, hi, hiz0, hiz1, hiz2⟩ := info_parts infoHold
  rcases A with _ | ad
  · have h0 : xs = [] := by
      by_cases hp : 0 < xs.length
      · obtain ⟨b, o, he, _⟩ := hr hp
        cases he
      · exact List.eq_nil_of_length_eq_zero (by omega)
    subst h0
    have e0 := fun w => Lib.run_eql_slice_nil (P := Try.prog) w 29 92 none 0 c 0 0 Try.underlying29
    go_enter Try.func98, Try.ntmps98
    go_wp2_with fail
    go_ret
    exact ⟨_, rfl, World.ownsRow_nil _ _ _ _, Below.refl _ _⟩
  · have HC : Hid (∀ W : World, Below w.heap.size w W → ∀ j u, (flc2 xs)[j]? = some u → W.cell? (ad.add j) = some u) := by
      intro W hW j u hu
      have hj : j < xs.length * 2 := by have := (List.getElem?_eq_some_iff.1 hu).1; rw [flc2_len] at this; exact this
      obtain ⟨A', c', he, -, -, -, hr'⟩ := h.a
      injection he with e1
      subst e1
      obtain ⟨ad', he', hb, hcell⟩ := hr' (by omega)
      injection he' with e2
      subst e2
      exact (hW.cell (p := ad.add j) (by rw [add_block]; exact hb)).trans (hcell j u hu)
    have hO := World.ownsRow_lit (base := w.heap.size) (e := 92) (size := 2) w #[] 0 (Nat.le_refl _) (by simp [maxLen]) rfl
    have hB := (Below.refl w.heap.size w).alloc (Nat.le_refl _) (.cells #[] 92)
    have hone : ∀ u ∈ flc2 xs, u.oneCell' = true := by simp [flc2, ints, Value.oneCell']
    have hln : (flc2 xs).length = xs.length * 2 := flc2_len xs
    have HO := Lib.hid hone
    clear hr hone
    have e0 := fun w => Lib.run_eql_slice_nil (P := Try.prog) w 29 92 (some ad) xs.length c 0 0 Try.underlying29
    go_enter Try.func98, Try.ntmps98
    go_wp2_with (at_builtin; refine wpList_append_own _ rfl _ _ 29 rfl w.heap.size 92 i (.agg #[.int .i64 0, .int .i64 0]) 2 16 Try.underlying29 hi hiz0 hiz1 hiz2 rfl (by decide) _ _ _ rfl hO ad xs.length c (flc2 xs) rfl hln (HC.out _ hB) HO.out (by unfold maxLen; omega) (by omega) (by simp) ?_)
    intro v' w1 hown' hgrow _
    have hB' := hB.grown hgrow (by simp) (fun k hk => (hO.lt k hk).1)
    go_wp2_with fail
    go_ret
    exact ⟨_, rfl, by simpa using hown', hB'⟩
set_option maxHeartbeats 800000 in
theorem cloneIT (v : Value) (xs : List Int) (w : World) (h : Rd w v 1 xs.length (ints xs)) (hsz : xs.length ≤ 16777216) :
    Calls Try.prog 97 #[v] w (RetIntsT xs w) := by
  obtain ⟨A, c, rfl, -, hnc, hc, hr⟩ := id h
  unfold maxLen at hc
  obtain ⟨i, hi, hiz0, hiz1, hiz2⟩ := info_parts infoInt
  rcases A with _ | ad
  · have h0 : xs = [] := by
      by_cases hp : 0 < xs.length
      · obtain ⟨b, o, he, _⟩ := hr hp
        cases he
      · exact List.eq_nil_of_length_eq_zero (by omega)
    subst h0
    have e0 := fun w => Lib.run_eql_slice_nil (P := Try.prog) w 22 3 none 0 c 0 0 Try.underlying22
    go_enter Try.func97, Try.ntmps97
    go_wp2_with fail
    go_ret
    exact ⟨_, rfl, World.ownsRow_nil _ _ _ _, Below.refl _ _⟩
  · have HC : Hid (∀ W : World, Below w.heap.size w W → ∀ j u, (ints xs)[j]? = some u → W.cell? (ad.add j) = some u) := by
      intro W hW j u hu
      have hj : j < xs.length := by have := (List.getElem?_eq_some_iff.1 hu).1; simpa [ints] using this
      obtain ⟨A', c', he, -, -, -, hr'⟩ := h.a
      injection he with e1
      subst e1
      obtain ⟨ad', he', hb, hcell⟩ := hr' (by omega)
      injection he' with e2
      subst e2
      exact (hW.cell (p := ad.add j) (by rw [add_block]; exact hb)).trans (hcell j u hu)
    have hO := World.ownsRow_lit (base := w.heap.size) (e := 3) (size := 1) w #[] 0 (Nat.le_refl _) (by simp [maxLen]) rfl
    have hB := (Below.refl w.heap.size w).alloc (Nat.le_refl _) (.cells #[] 3)
    have hone : ∀ u ∈ ints xs, u.oneCell' = true := by simp [ints, Value.oneCell']
    have hln : (ints xs).length = xs.length * 1 := by simp [ints]
    have HO := Lib.hid hone
    clear hr hone
    have e0 := fun w => Lib.run_eql_slice_nil (P := Try.prog) w 22 3 (some ad) xs.length c 0 0 Try.underlying22
    go_enter Try.func97, Try.ntmps97
    go_wp2_with (at_builtin; refine wpList_append_own _ rfl _ _ 22 rfl w.heap.size 3 i (.int .i64 0) 1 8 Try.underlying22 hi hiz0 hiz1 hiz2 rfl (by decide) _ _ _ rfl hO ad xs.length c (ints xs) rfl hln (HC.out _ hB) HO.out (by unfold maxLen; omega) (by omega) (by simp) ?_)
    intro v' w1 hown' hgrow _
    have hB' := hB.grown hgrow (by simp) (fun k hk => (hO.lt k hk).1)
    go_wp2_with fail
    go_ret
    exact ⟨_, rfl, by simpa using hown', hB'⟩
/-- the rows of w0 are still there behind a call and a store into a block above -/
theorem RdBn.far' {w0 : World} {a b c d : Value} {B : Bn} {lo : Nat} (r : RdBn w0 a b c d B) {w : World} (hb : Below lo w0 w) (hl : w0.heap.size ≤ lo) : RdBn w a b c d B := r.of_below hb hl
set_option maxHeartbeats 3200000 in
theorem copyBenchT (a b c d : Value) (B : Bn) (w : World) (r : RdBn w a b c d B) (hsz : szBn B ≤ 16777216) :
    Calls Try.prog 59 #[.agg #[a, b, c, d, .int .i64 B.n]] w (RetBnT B w) := by
  obtain ⟨A1, c1, A2, c2, A3, c3, A4, c4, ⟨rfl, rfl, rfl, rfl⟩, -, -⟩ := r.slices
  have hsm : (B.l.length ≤ 16777216 ∧ B.h.length ≤ 16777216) ∧ B.w.length ≤ 16777216 ∧ B.f.length ≤ 16777216 := by unfold szBn at hsz; omega
  obtain ⟨W0, hW0⟩ : ∃ W0, W0 = (w.alloc (.cells #[.slice A1 B.l.length c1, .slice A2 B.h.length c2, .slice A3 B.w.length c3, .slice A4 B.f.length c4, .int .i64 B.n] 31)).alloc (.cells #[.slice none 0 0, .slice none 0 0, .slice none 0 0, .slice none 0 0, .int .i64 0] 31) := ⟨_, rfl⟩
  have hB0 := ((Below.refl w.heap.size w).alloc (Nat.le_refl _) (.cells #[.slice A1 B.l.length c1, .slice A2 B.h.length c2, .slice A3 B.w.length c3, .slice A4 B.f.length c4, .int .i64 B.n] 31)).alloc (by simp) (.cells #[.slice none 0 0, .slice none 0 0, .slice none 0 0, .slice none 0 0, .int .i64 0] 31)
  have p0 := (Bk.new w #[.slice A1 B.l.length c1, .slice A2 B.h.length c2, .slice A3 B.w.length c3, .slice A4 B.f.length c4, .int .i64 B.n] 31).alloc (.cells #[.slice none 0 0, .slice none 0 0, .slice none 0 0, .slice none 0 0, .int .i64 0] 31)
  have r0 := Bk.new (w.alloc (.cells #[.slice A1 B.l.length c1, .slice A2 B.h.length c2, .slice A3 B.w.length c3, .slice A4 B.f.length c4, .int .i64 B.n] 31)) #[.slice none 0 0, .slice none 0 0, .slice none 0 0, .slice none 0 0, .int .i64 0] 31
  simp only [World.size_alloc] at r0
  have hs0 : W0.heap.size = w.heap.size + 2 := by rw [hW0]; simp
  have hRd := r.below hB0
  rw [← hW0] at hB0 p0 r0 hRd
  have HW0 := Lib.hid hW0
  have HB0 := Lib.hid hB0
  have HR := Lib.hid hRd
  have HRw := Lib.hid r
  have HS0 := Lib.hid hs0
  have hz0 : w.heap.size + 2 ≤ W0.heap.size := by omega
  clear hW0 hB0 hRd hs0 hsz
  have T0 := Lib.hid (Below.refl W0.heap.size W0)
  obtain ⟨hc0, hf0⟩ := p0.at_ 0 (x := .slice A1 B.l.length c1) rfl
  go_enter Try.func59, Try.ntmps59
  go_wp2_with fail
  rw [← HW0.out]
  refine (cloneIT _ B.l _ HR.out.l hsm.1.1).mono ?_
  rintro e w1 ⟨v1, rfl, ho1, hb1⟩
  obtain ⟨D1, d1, rfl⟩ := owns_form' ho1
  have lt1 := Lib.hid ho1.lt
  have z1 := hb1.size
  have p1' := p0.below hb1 p0.lt
  have r1' := r0.below hb1 r0.lt
  have q1 := p1'.at_ 0 (x := .slice A1 B.l.length c1) rfl
  have p1 := p1'.set_ 0 (.slice D1 B.l.length d1)
  have r1 := r1'.far (p := ⟨w.heap.size, 0, none⟩) (by simp) (.slice D1 B.l.length d1)
  have HB1 := Lib.hid ((HB0.out.trans (hb1.mono HB0.out.size)).setCell (p := ⟨w.heap.size, 0, none⟩) (Nat.le_refl _) (.slice D1 B.l.length d1))
  have O1x1 := Lib.hid (owns_ne ho1 (fun e9 => by have := lt1.out _ e9; (try simp only [World.setCell, Array.size_modify] at this); omega) (Only.setCell w1 (b := w.heap.size) (i := 0) (.slice D1 B.l.length d1)))
  have HRr1 : Hid (RdBn (w1.setCell ⟨w.heap.size, 0, none⟩ (.slice D1 B.l.length d1)) (.slice A1 B.l.length c1) (.slice A2 B.h.length c2) (.slice A3 B.w.length c3) (.slice A4 B.f.length c4) B) := Lib.hid (HRw.out.below HB1.out)
  obtain ⟨hc1, hf1⟩ := p1.at_ 1 (x := .slice A2 B.h.length c2) rfl
  obtain ⟨y1, x1⟩ := q1
  clear p1' r1' ho1 hb1
  go_wp2_with fail
  refine (cloneHT _ B.h _ HRr1.out.h hsm.1.2).mono ?_
  rintro e w2 ⟨v2, rfl, ho2, hb2⟩
  obtain ⟨D2, d2, rfl⟩ := owns_form' ho2
  have lt2 := Lib.hid ho2.lt
  have z2 := hb2.size
  simp only [World.setCell, Array.size_modify] at z2
  have p2' := p1.below hb2 p1.lt
  have r2' := r1.below hb2 r1.lt
  have q2 := p2'.at_ 1 (x := .slice A2 B.h.length c2) rfl
  have p2 := p2'.set_ 1 (.slice D2 B.h.length d2)
  have r2 := r2'.far (p := ⟨w.heap.size, 1, none⟩) (by simp) (.slice D2 B.h.length d2)
  have HB2 := Lib.hid ((HB1.out.trans (hb2.mono HB1.out.size)).setCell (p := ⟨w.heap.size, 1, none⟩) (Nat.le_refl _) (.slice D2 B.h.length d2))
  have O1x2 := Lib.hid (owns_ne (ownsRow_below O1x1.out hb2) (fun e9 => by have := lt1.out _ e9; (try simp only [World.setCell, Array.size_modify] at this); omega) (Only.setCell w2 (b := w.heap.size) (i := 1) (.slice D2 B.h.length d2)))
  have O2x2 := Lib.hid (owns_ne ho2 (fun e9 => by have := lt2.out _ e9; (try simp only [World.setCell, Array.size_modify] at this); omega) (Only.setCell w2 (b := w.heap.size) (i := 1) (.slice D2 B.h.length d2)))
  have HRr2 : Hid (RdBn (w2.setCell ⟨w.heap.size, 1, none⟩ (.slice D2 B.h.length d2)) (.slice A1 B.l.length c1) (.slice A2 B.h.length c2) (.slice A3 B.w.length c3) (.slice A4 B.f.length c4) B) := Lib.hid (HRw.out.below HB2.out)
  obtain ⟨hc2, hf2⟩ := p2.at_ 2 (x := .slice A3 B.w.length c3) rfl
  obtain ⟨y2, x2⟩ := q2
  clear p2' r2' ho2 hb2
  go_wp2_with fail
  refine (cloneIT _ B.w _ HRr2.out.q hsm.2.1).mono ?_
  rintro e w3 ⟨v3, rfl, ho3, hb3⟩
  obtain ⟨D3, d3, rfl⟩ := owns_form' ho3
  have lt3 := Lib.hid ho3.lt
  have z3 := hb3.size
  simp only [World.setCell, Array.size_modify] at z3
  have p3' := p2.below hb3 p2.lt
  have r3' := r2.below hb3 r2.lt
  have q3 := p3'.at_ 2 (x := .slice A3 B.w.length c3) rfl
  have p3 := p3'.set_ 2 (.slice D3 B.w.length d3)
  have r3 := r3'.far (p := ⟨w.heap.size, 2, none⟩) (by simp) (.slice D3 B.w.length d3)
  have HB3 := Lib.hid ((HB2.out.trans (hb3.mono HB2.out.size)).setCell (p := ⟨w.heap.size, 2, none⟩) (Nat.le_refl _) (.slice D3 B.w.length d3))
  have O1x3 := Lib.hid (owns_ne (ownsRow_below O1x2.out hb3) (fun e9 => by have := lt1.out _ e9; (try simp only [World.setCell, Array.size_modify] at this); omega) (Only.setCell w3 (b := w.heap.size) (i := 2) (.slice D3 B.w.length d3)))
  have O2x3 := Lib.hid (owns_ne (ownsRow_below O2x2.out hb3) (fun e9 => by have := lt2.out _ e9; (try simp only [World.setCell, Array.size_modify] at this); omega) (Only.setCell w3 (b := w.heap.size) (i := 2) (.slice D3 B.w.length d3)))
  have O3x3 := Lib.hid (owns_ne ho3 (fun e9 => by have := lt3.out _ e9; (try simp only [World.setCell, Array.size_modify] at this); omega) (Only.setCell w3 (b := w.heap.size) (i := 2) (.slice D3 B.w.length d3)))
  have HRr3 : Hid (RdBn (w3.setCell ⟨w.heap.size, 2, none⟩ (.slice D3 B.w.length d3)) (.slice A1 B.l.length c1) (.slice A2 B.h.length c2) (.slice A3 B.w.length c3) (.slice A4 B.f.length c4) B) := Lib.hid (HRw.out.below HB3.out)
  obtain ⟨hc3, hf3⟩ := p3.at_ 3 (x := .slice A4 B.f.length c4) rfl
  obtain ⟨y3, x3⟩ := q3
  clear p3' r3' ho3 hb3
  go_wp2_with fail
  refine (cloneIT _ B.f _ HRr3.out.f hsm.2.2).mono ?_
  rintro e w4 ⟨v4, rfl, ho4, hb4⟩
  obtain ⟨D4, d4, rfl⟩ := owns_form' ho4
  have lt4 := Lib.hid ho4.lt
  have z4 := hb4.size
  simp only [World.setCell, Array.size_modify] at z4
  have p4' := p3.below hb4 p3.lt
  have r4' := r3.below hb4 r3.lt
  have q4 := p4'.at_ 3 (x := .slice A4 B.f.length c4) rfl
  have p4 := p4'.set_ 3 (.slice D4 B.f.length d4)
  have r4 := r4'.far (p := ⟨w.heap.size, 3, none⟩) (by simp) (.slice D4 B.f.length d4)
  have HB4 := Lib.hid ((HB3.out.trans (hb4.mono HB3.out.size)).setCell (p := ⟨w.heap.size, 3, none⟩) (Nat.le_refl _) (.slice D4 B.f.length d4))
  have O1x4 := Lib.hid (owns_ne (ownsRow_below O1x3.out hb4) (fun e9 => by have := lt1.out _ e9; (try simp only [World.setCell, Array.size_modify] at this); omega) (Only.setCell w4 (b := w.heap.size) (i := 3) (.slice D4 B.f.length d4)))
  have O2x4 := Lib.hid (owns_ne (ownsRow_below O2x3.out hb4) (fun e9 => by have := lt2.out _ e9; (try simp only [World.setCell, Array.size_modify] at this); omega) (Only.setCell w4 (b := w.heap.size) (i := 3) (.slice D4 B.f.length d4)))
  have O3x4 := Lib.hid (owns_ne (ownsRow_below O3x3.out hb4) (fun e9 => by have := lt3.out _ e9; (try simp only [World.setCell, Array.size_modify] at this); omega) (Only.setCell w4 (b := w.heap.size) (i := 3) (.slice D4 B.f.length d4)))
  have O4x4 := Lib.hid (owns_ne ho4 (fun e9 => by have := lt4.out _ e9; (try simp only [World.setCell, Array.size_modify] at this); omega) (Only.setCell w4 (b := w.heap.size) (i := 3) (.slice D4 B.f.length d4)))
  obtain ⟨y4, x4⟩ := q4
  clear p4' r4' ho4 hb4
  obtain ⟨g0, -⟩ := p4.at_ 0 (x := .slice D1 B.l.length d1) rfl
  obtain ⟨g1, -⟩ := p4.at_ 1 (x := .slice D2 B.h.length d2) rfl
  obtain ⟨g2, -⟩ := p4.at_ 2 (x := .slice D3 B.w.length d3) rfl
  obtain ⟨g3, -⟩ := p4.at_ 3 (x := .slice D4 B.f.length d4) rfl
  obtain ⟨g4, -⟩ := p4.at_ 4 (x := .int .i64 B.n) rfl
  obtain ⟨rr0, rf0⟩ := r4.at_ 0 (x := .slice none 0 0) rfl
  obtain ⟨rr1, rf1⟩ := r4.at_ 1 (x := .slice none 0 0) rfl
  obtain ⟨rr2, rf2⟩ := r4.at_ 2 (x := .slice none 0 0) rfl
  obtain ⟨rr3, rf3⟩ := r4.at_ 3 (x := .slice none 0 0) rfl
  obtain ⟨rr4, rf4⟩ := r4.at_ 4 (x := .int .i64 0) rfl
  have qF := r4.set5 (.slice D1 B.l.length d1) (.slice D2 B.h.length d2) (.slice D3 B.w.length d3) (.slice D4 B.f.length d4) (.int .i64 B.n)
  obtain ⟨zz0, -⟩ := qF.at_ 0 (x := .slice D1 B.l.length d1) rfl
  obtain ⟨zz1, -⟩ := qF.at_ 1 (x := .slice D2 B.h.length d2) rfl
  obtain ⟨zz2, -⟩ := qF.at_ 2 (x := .slice D3 B.w.length d3) rfl
  obtain ⟨zz3, -⟩ := qF.at_ 3 (x := .slice D4 B.f.length d4) rfl
  obtain ⟨zz4, -⟩ := qF.at_ 4 (x := .int .i64 B.n) rfl
  clear qF
  go_wp2_with fail
  refine bodyPost_ret (v := .agg #[.slice D1 B.l.length d1, .slice D2 B.h.length d2, .slice D3 B.w.length d3, .slice D4 B.f.length d4, .int .i64 B.n]) (by simp [results, Try.results59, go_sem, zz0, zz1, zz2, zz3, zz4]) rfl ⟨_, _, _, _, rfl, ⟨owns_set5 (owns_mono O1x4.out (by (try simp only [World.setCell, Array.size_modify] at *); omega)) (fun e9 => by have := lt1.out _ e9; (try simp only [World.setCell, Array.size_modify] at *); omega) _ _ _ _ _, owns_set5 (owns_mono O2x4.out (by (try simp only [World.setCell, Array.size_modify] at *); omega)) (fun e9 => by have := lt2.out _ e9; (try simp only [World.setCell, Array.size_modify] at *); omega) _ _ _ _ _, owns_set5 (owns_mono O3x4.out (by (try simp only [World.setCell, Array.size_modify] at *); omega)) (fun e9 => by have := lt3.out _ e9; (try simp only [World.setCell, Array.size_modify] at *); omega) _ _ _ _ _, owns_set5 (owns_mono O4x4.out (by (try simp only [World.setCell, Array.size_modify] at *); omega)) (fun e9 => by have := lt4.out _ e9; (try simp only [World.setCell, Array.size_modify] at *); omega) _ _ _ _ _, fun k hk e9 => by have h1 := lt1.out k hk; have h2 := lt2.out k e9; (try simp only [World.setCell, Array.size_modify] at *); omega, fun k hk e9 => by have h1 := lt1.out k hk; have h2 := lt3.out k e9; (try simp only [World.setCell, Array.size_modify] at *); omega, fun k hk e9 => by have h1 := lt1.out k hk; have h2 := lt4.out k e9; (try simp only [World.setCell, Array.size_modify] at *); omega, fun k hk e9 => by have h1 := lt2.out k hk; have h2 := lt3.out k e9; (try simp only [World.setCell, Array.size_modify] at *); omega, fun k hk e9 => by have h1 := lt2.out k hk; have h2 := lt4.out k e9; (try simp only [World.setCell, Array.size_modify] at *); omega, fun k hk e9 => by have h1 := lt3.out k hk; have h2 := lt4.out k e9; (try simp only [World.setCell, Array.size_modify] at *); omega⟩, below_set5 HB4.out (Nat.le_succ _) _ _ _ _ _⟩
end Go.Proofs.Ytiamkgkhamnaeaa
