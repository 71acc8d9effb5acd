/- Contracts of the laws' helpers that compare and mark threads and machines. Condition: at most 16777216 values. -/
import Derived.Test.YtiflooopfpcelaaM5
namespace Go.Proofs.Ytiflooopfpcelaa
set_option maxRecDepth 20000
set_option linter.unusedSimpArgs false
set_option linter.unusedVariables false
open Go.ChangeShapes Go.WideShapes Go.ChangeAt Go.RowKit
set_option maxHeartbeats 800000 in
theorem eqThread (t u : Th) (a b a' b' : Value) (w : World) (ha : Rd w a 1 t.v.length (ints t.v)) (hb : Rd w b 2 t.f.length (flc2 t.f)) (ha' : Rd w a' 1 u.v.length (ints u.v)) (hb' : Rd w b' 2 u.f.length (flc2 u.f)) :
    Calls Try.prog 107 #[.agg #[.int .i64 t.pc, a, b], .agg #[.int .i64 u.pc, a', b']] w fun e w' => e = .returned (.bool (decide (t = u))) ∧ Below w.heap.size w w' := by
  obtain ⟨A, c, rfl, -, -, -, -⟩ := id ha
  obtain ⟨B, d, rfl, -, -, -, -⟩ := id hb
  obtain ⟨A', c', rfl, -, -, -, -⟩ := id ha'
  obtain ⟨B', d', rfl, -, -, -, -⟩ := id hb'
  have hB := ((Below.refl w.heap.size w).alloc (Nat.le_refl _) (.cells #[.int .i64 t.pc, .slice A t.v.length c, .slice B t.f.length d] 71)).alloc (by simp) (.cells #[.int .i64 u.pc, .slice A' u.v.length c', .slice B' u.f.length d'] 71)
  have k1 := (Bk.new w #[.int .i64 t.pc, .slice A t.v.length c, .slice B t.f.length d] 71).alloc (.cells #[.int .i64 u.pc, .slice A' u.v.length c', .slice B' u.f.length d'] 71)
  have k2 := Bk.new (w.alloc (.cells #[.int .i64 t.pc, .slice A t.v.length c, .slice B t.f.length d] 71)) #[.int .i64 u.pc, .slice A' u.v.length c', .slice B' u.f.length d'] 71
  simp only [World.size_alloc] at k2
  have HB := Lib.hid hB
  clear hB
  by_cases hp : t.pc = u.pc
  · have e1 : (t.pc != u.pc) = false := by simp [hp]
    have HP := Lib.hid hp
    clear hp
    go_enter Try.func107, Try.ntmps107
    go_wp2_with fail
    refine (eqIntS _ _ t.v u.v _ (ha.below HB.out) (ha'.below HB.out)).mono ?_
    rintro e w1 ⟨rfl, n, rfl⟩
    cases hd : decide (t.v = u.v)
    · have HD : Hid (decide (t = u) = false) := Lib.hid (by simp only [decide_eq_false_iff_not] at hd ⊢; exact fun h => hd (by rw [h]))
      clear hd
      go_wp2_with fail
      go_ret
      exact ⟨ret_bool HD.out.symm, below_more HB.out n⟩
    · have HV : Hid (t.v = u.v) := Lib.hid (by simpa using hd)
      have HB1 := Lib.hid (below_more HB.out n)
      obtain ⟨hc1, -⟩ := (k1.drewN n).at_ 2 (x := .slice B t.f.length d) rfl
      obtain ⟨hc2, -⟩ := (k2.drewN n).at_ 2 (x := .slice B' u.f.length d') rfl
      clear hd
      go_wp2_with fail
      refine (eqSlotS _ _ t.f u.f _ (hb.below HB1.out) (hb'.below HB1.out)).mono ?_
      rintro e w2 ⟨rfl, hb2⟩
      cases hd : decide (t.f = u.f)
      · have HD : Hid (decide (t = u) = false) := Lib.hid (by simp only [decide_eq_false_iff_not] at hd ⊢; exact fun h => hd (by rw [h]))
        clear hd
        go_wp2_with fail
        go_ret
        exact ⟨ret_bool HD.out.symm, HB1.out.trans (hb2.mono HB1.out.size)⟩
      · have HD : Hid (decide (t = u) = true) := Lib.hid (by
          simp only [decide_eq_true_eq] at hd ⊢
          obtain ⟨t1, t2, t3⟩ := t
          obtain ⟨u1, u2, u3⟩ := u
          have h1 : t1 = u1 := HP.out
          have h2 : t2 = u2 := HV.out
          have h3 : t3 = u3 := hd
          rw [h1, h2, h3])
        clear hd
        go_wp2_with fail
        go_ret
        exact ⟨ret_bool HD.out.symm, HB1.out.trans (hb2.mono HB1.out.size)⟩
  · have e1 : (t.pc != u.pc) = true := by simp [hp]
    have HD : Hid (decide (t = u) = false) := Lib.hid (by simp only [decide_eq_false_iff_not]; exact fun h => hp (by rw [h]))
    clear hp
    go_enter Try.func107, Try.ntmps107
    go_wp2_with fail
    go_ret
    exact ⟨ret_bool HD.out.symm, HB.out⟩
set_option maxHeartbeats 1600000 in
theorem eqThreadS (v u : Value) (xs ys : List Th) (w : World) (h : RdTS w v xs) (h' : RdTS w u ys) :
    Calls Try.prog 64 #[v, u] w fun e w' => e = .returned (.bool (decide (xs = ys))) ∧ Below w.heap.size w w' := by
  obtain ⟨vs, hvl, ⟨A, c, rfl, -, hnc, hc, hr⟩, hin⟩ := h
  obtain ⟨vs', hvl', ⟨A', c', rfl, -, hnc', hc', hr'⟩, hin'⟩ := h'
  unfold maxLen at hc hc'
  by_cases hlen : xs.length = ys.length
  · have hne : ((xs.length : Int) != (ys.length : Int)) = false := by simp [hlen]
    have hlen' : xs.length ≤ ys.length ∧ ys.length ≤ xs.length := by omega
    clear hlen
    go_enter Try.func64, Try.ntmps64
    go_wp2_with fail
    go_loopw [5] (fun i wr => ∃ k : Nat, k ≤ xs.length ∧ i = .int .i64 k ∧ Hid (xs.take k = ys.take k) ∧ Below w.heap.size w wr) (fun i _ => xs.length - (intOf i).toNat)
    case atStart => exact ⟨0, Nat.zero_le _, rfl, Lib.hid (by simp), Below.refl _ _⟩
    case round =>
      obtain ⟨k, hk, rfl, HT, hB⟩ := hrel
      by_cases hlt : k < xs.length
      · obtain ⟨b, o, rfl, hb, hcell⟩ := hr (by omega)
        obtain ⟨b', o', rfl, hb', hcell'⟩ := hr' (by omega)
        obtain ⟨t, a1, a2, hxk, hpk, hx0, hx1, hx2⟩ := th_at hvl hcell hlt hB hb
        obtain ⟨t', c1, c2, hyk, hqk, hy0, hy1, hy2⟩ := th_at (k := k) hvl' hcell' (by omega) hB hb'
        obtain ⟨ra, rb⟩ := hin k t (a1, a2) hxk.out hpk.out
        obtain ⟨ra', rb'⟩ := hin' k t' (c1, c2) hyk.out hqk.out
        have Ra := Lib.hid (ra.below hB)
        have Rb := Lib.hid (rb.below hB)
        have Ra' := Lib.hid (ra'.below hB)
        have Rb' := Lib.hid (rb'.below hB)
        obtain ⟨A1, d1, rfl, -, -, -, -⟩ := id ra
        obtain ⟨A2, d2, rfl, -, -, -, -⟩ := id rb
        obtain ⟨A3, d3, rfl, -, -, -, -⟩ := id ra'
        obtain ⟨A4, d4, rfl, -, -, -, -⟩ := id rb'
        have hlt2 : k < ys.length := by omega
        have hlt3 : ((k : Int) < ys.length) := by omega
        have lb : b < wr.heap.size := Nat.lt_of_lt_of_le hb hB.size
        have lb' : b' < wr.heap.size := Nat.lt_of_lt_of_le hb' hB.size
        clear hcell hcell' hr hr' hin hin' ra rb ra' rb' hpk hqk
        go_wp2_with fail
        have HS : Hid (∀ W : World, Below wr.heap.size wr W → Below wr.heap.size wr W ∧ W.cell? ⟨b, o + k * 3, none⟩ = some (.int .i64 t.pc) ∧ W.cell? ⟨b, o + k * 3 + 1, none⟩ = some (.slice A1 t.v.length d1) ∧
          W.cell? ⟨b, o + k * 3 + 2, none⟩ = some (.slice A2 t.f.length d2) ∧ W.cell? ⟨b', o' + k * 3, none⟩ = some (.int .i64 t'.pc) ∧ W.cell? ⟨b', o' + k * 3 + 1, none⟩ = some (.slice A3 t'.v.length d3) ∧
          W.cell? ⟨b', o' + k * 3 + 2, none⟩ = some (.slice A4 t'.f.length d4)) :=
          Lib.hid fun W hW => ⟨hW, (hW.cell (p := ⟨b, o + k * 3, none⟩) lb).trans hx0, (hW.cell (p := ⟨b, o + k * 3 + 1, none⟩) lb).trans hx1, (hW.cell (p := ⟨b, o + k * 3 + 2, none⟩) lb).trans hx2,
            (hW.cell (p := ⟨b', o' + k * 3, none⟩) lb').trans hy0, (hW.cell (p := ⟨b', o' + k * 3 + 1, none⟩) lb').trans hy1, (hW.cell (p := ⟨b', o' + k * 3 + 2, none⟩) lb').trans hy2⟩
        have HB := Lib.hid hB
        clear hB
        go_region_held3 (fun W => Below wr.heap.size wr W ∧ W.cell? ⟨b, o + k * 3, none⟩ = some (.int .i64 t.pc) ∧ W.cell? ⟨b, o + k * 3 + 1, none⟩ = some (.slice A1 t.v.length d1) ∧
          W.cell? ⟨b, o + k * 3 + 2, none⟩ = some (.slice A2 t.f.length d2) ∧ W.cell? ⟨b', o' + k * 3, none⟩ = some (.int .i64 t'.pc) ∧ W.cell? ⟨b', o' + k * 3 + 1, none⟩ = some (.slice A3 t'.v.length d3) ∧
          W.cell? ⟨b', o' + k * 3 + 2, none⟩ = some (.slice A4 t'.f.length d4)) (first | (exact HS.out _ (Below.refl _ _).drew) | (exact HS.out _ (by assumption)))
          (first
            | (go_at_call 107; have hS := ‹Below wr.heap.size wr _ ∧ _›.1; refine (eqThread t t' _ _ _ _ _ (Ra.out.below hS) (Rb.out.below hS) (Ra'.out.below hS) (Rb'.out.below hS)).mono ?_; rintro e w9 ⟨rfl, hb9⟩; have hS2 := hS.trans (hb9.mono hS.size); clear hS))
        have hS := ‹Below wr.heap.size wr _ ∧ _›.1
        clear HS
        have hBn := HB.out.trans (hS.mono HB.out.size)
        clear HB hx0 hx1 hx2 hy0 hy1 hy2 hb9
        have HBn := Lib.hid hBn
        clear hBn hS
        cases hd : decide (t = t')
        · have hn : decide (xs = ys) = false := by
            rw [decide_eq_false_iff_not]
            rintro rfl
            have := hxk.out.symm.trans hyk.out
            injection this with this
            simp [this] at hd
          have HN := Lib.hid hn
          clear hn hd
          go_wp2_with fail
          go_ret
          exact ⟨ret_bool HN.out.symm, HBn.out⟩
        · have e : t = t' := by simpa using hd
          have HE := Lib.hid e
          clear e hd
          go_wp2_with fail
          exact ⟨⟨k + 1, by omega, by go_num, Lib.hid (take_snoc_eq HT.out (hxk.out.trans (by rw [hyk.out, HE.out]))), HBn.out⟩, by simp [intOf]; omega⟩
      · go_wp2_with fail
        go_ret
        refine ⟨ret_bool ?_, hB⟩
        have h1 := HT.out
        rw [List.take_of_length_le (by omega), List.take_of_length_le (by omega)] at h1
        simp [h1]
  · have hne : ((xs.length : Int) != (ys.length : Int)) = true := by simp; omega
    go_enter Try.func64, Try.ntmps64
    go_wp2_with fail
    go_ret
    exact ⟨ret_bool (by simp; intro e; exact hlen (by rw [e])), Below.refl _ _⟩
set_option maxHeartbeats 800000 in
theorem eqMachine (mv tv mv' tv' : Value) (M N : Ma) (w : World) (h : RdMa w mv tv M) (h' : RdMa w mv' tv' N) :
    Calls Try.prog 18 #[.agg #[mv, tv], .agg #[mv', tv']] w fun e w' => e = .returned (.bool (decide (M = N))) ∧ Below w.heap.size w w' := by
  obtain ⟨A, c, B, d, rfl, rfl, -⟩ := h.slices
  obtain ⟨A', c', B', d', rfl, rfl, -⟩ := h'.slices
  have hB := ((Below.refl w.heap.size w).alloc (Nat.le_refl _) (.cells #[.slice A M.mem.length c, .slice B M.ths.length d] 41)).alloc (by simp) (.cells #[.slice A' N.mem.length c', .slice B' N.ths.length d'] 41)
  have k1 := (Bk.new w #[.slice A M.mem.length c, .slice B M.ths.length d] 41).alloc (.cells #[.slice A' N.mem.length c', .slice B' N.ths.length d'] 41)
  have k2 := Bk.new (w.alloc (.cells #[.slice A M.mem.length c, .slice B M.ths.length d] 41)) #[.slice A' N.mem.length c', .slice B' N.ths.length d'] 41
  simp only [World.size_alloc] at k2
  have HB := Lib.hid hB
  clear hB
  go_enter Try.func18, Try.ntmps18
  go_wp2_with fail
  refine (eqMem _ _ M.mem N.mem _ (h.mem.below HB.out) (h'.mem.below HB.out)).mono ?_
  rintro e w1 ⟨rfl, hb1⟩
  have HB1 := Lib.hid (HB.out.trans (hb1.mono HB.out.size))
  cases hd : decide (M.mem = N.mem)
  · have HD : Hid (decide (M = N) = false) := Lib.hid (by simp only [decide_eq_false_iff_not] at hd ⊢; exact fun h => hd (by rw [h]))
    clear hd
    go_wp2_with fail
    go_ret
    exact ⟨ret_bool HD.out.symm, HB1.out⟩
  · have HV : Hid (M.mem = N.mem) := Lib.hid (by simpa using hd)
    obtain ⟨hc1, -⟩ := (k1.below hb1 k1.lt).at_ 1 (x := .slice B M.ths.length d) rfl
    obtain ⟨hc2, -⟩ := (k2.below hb1 k2.lt).at_ 1 (x := .slice B' N.ths.length d') rfl
    clear hd
    go_wp2_with fail
    refine (eqThreadS _ _ M.ths N.ths _ (h.ths.below HB1.out) (h'.ths.below HB1.out)).mono ?_
    rintro e w2 ⟨rfl, hb2⟩
    cases hd : decide (M.ths = N.ths)
    · have HD : Hid (decide (M = N) = false) := Lib.hid (by simp only [decide_eq_false_iff_not] at hd ⊢; exact fun h => hd (by rw [h]))
      clear hd
      go_wp2_with fail
      go_ret
      exact ⟨ret_bool HD.out.symm, HB1.out.trans (hb2.mono HB1.out.size)⟩
    · have HD : Hid (decide (M = N) = true) := Lib.hid (by
        simp only [decide_eq_true_eq] at hd ⊢
        obtain ⟨t1, t2⟩ := M
        obtain ⟨u1, u2⟩ := N
        have h1 : t1 = u1 := HV.out
        have h2 : t2 = u2 := hd
        rw [h1, h2])
      clear hd
      go_wp2_with fail
      go_ret
      exact ⟨ret_bool HD.out.symm, HB1.out.trans (hb2.mono HB1.out.size)⟩
end Go.Proofs.Ytiflooopfpcelaa
