/- Contracts of the laws' helpers over a bench: size, copy, equality, marks and their look-up. Condition: at most 1048576 elements. -/
import Derived.Test.YtkpgjeeofghldaaVB
namespace Go.Proofs.Ytkpgjeeofghldaa
set_option maxRecDepth 20000
set_option linter.unusedSimpArgs false
set_option linter.unusedVariables false
open Go.ChangeShapes Go.WideShapes Go.ChangeAt Go.RowKit
set_option linter.unusedVariables false
def szBn (B : Bn) : Nat := B.l.length + B.h.length + B.w.length + B.f.length
def cntBn (B : Bn) : Nat := B.l.length + B.h.length * 2 + B.w.length + B.f.length
def mkBn (B : Bn) (m : Int) : Bn := ⟨marked B.l.length m, mk2 B.h.length (m + B.l.length), marked B.w.length (m + B.l.length + B.h.length * 2), marked B.f.length (m + B.l.length + B.h.length * 2 + B.w.length), B.n⟩
theorem mkBn_len (B : Bn) (m : Int) : ((mkBn B m).l.length = B.l.length ∧ (mkBn B m).h.length = B.h.length) ∧ (mkBn B m).w.length = B.w.length ∧ (mkBn B m).f.length = B.f.length :=
  ⟨⟨marked_len _ _, mk2_len _ _⟩, marked_len _ _, marked_len _ _⟩
set_option maxHeartbeats 400000 in
theorem toHold (i : P2) (w : World) :
    Calls Try.prog 19 #[.agg #[.int .i64 i.a, .int .i64 i.b]] w fun e w' => e = .returned (.agg #[.int .i64 i.a, .int .i64 i.b]) ∧ Below w.heap.size w w' := by
  go_enter Try.func19, Try.ntmps19
  go_wp2_with fail
  exact bodyPost_ret (v := .agg #[.int .i64 i.a, .int .i64 i.b]) (by simp [results, Try.results19, go_sem]) rfl ⟨rfl, (((Below.refl _ _).alloc (Nat.le_refl _) _).alloc (by simp) _).alloc (by simp; omega) _⟩
theorem infoHold : (Try.prog.info? 44).map (fun i => (i.zero, i.size, i.bytes)) = some (some (.agg #[.int .i64 0, .int .i64 0]), 2, 16) := by kernel_rfl
set_option maxHeartbeats 400000 in
theorem szHoldS (v : Value) (n : Nat) (cs : List Value) (left : Int) (w : World) (h : RdA w v 2 n cs) (hl0 : -1 ≤ left) (hl : left ≤ 1048576) :
    Calls Try.prog 10 #[v, .int .i64 left] w fun e w' => e = .returned (.int .i64 (szF n left)) ∧ w = w' := by
  obtain ⟨A, c, rfl, -, hnc, hc, -⟩ := h
  unfold maxLen at hc
  by_cases hx : left - n < 0
  · go_enter Try.func10, Try.ntmps10
    go_wp2
    go_ret
    exact ⟨ret_int (by unfold szF; rw [if_pos hx]), rfl⟩
  · go_enter Try.func10, Try.ntmps10
    go_wp2
    go_ret
    exact ⟨ret_int (by unfold szF; rw [if_neg (by omega)]), rfl⟩
set_option maxHeartbeats 800000 in
theorem toHoldS (v : Value) (xs : List P2) (w : World) (h : RdA w v 2 xs.length (flc2 xs)) (hsz : xs.length ≤ 1048576) :
    Calls Try.prog 13 #[v] w fun e w' => ∃ v' bs, e = .returned v' ∧ Own w' v' 2 xs.length (flc2 xs) bs ∧ (∀ b ∈ bs, w.heap.size ≤ b) ∧ Below w.heap.size w w' := by
  obtain ⟨A, c, rfl, -, hnc, hc, hr⟩ := h
  unfold maxLen at hc
  obtain ⟨i, hi, hz0, hz1, hz2⟩ := info_parts infoHold
  go_enter Try.func13, Try.ntmps13
  go_wp2_with (at_make; refine wpList_make_full _ rfl _ _ 28 rfl w.heap.size 44 i (.agg #[.int .i64 0, .int .i64 0]) 2 Try.underlying28 hi hz0 hz1 _ _ _ _ xs.length rfl rfl rfl rfl (by rw [hz2]; omega) (by unfold maxLen; omega) (Nat.le_refl _) ?_)
  intro w1 hown hg1
  rw [p2Part_zero] at hown
  have hb1 : Below w.heap.size w w1 := (Below.refl _ _).grown hg1 (Nat.le_refl _) (by simp)
  go_wp2_with fail
  go_loopw [4] (fun i wr => ∃ k : Nat, k ≤ xs.length ∧ i = .int .i64 k ∧ wr.ownsRow w.heap.size 44 2 (.slice (some ⟨w.heap.size, 0, none⟩) xs.length xs.length) xs.length (p2Part xs k) ∧ Below w.heap.size w wr) (fun i _ => xs.length - (intOf i).toNat)
  case atStart => exact ⟨0, Nat.zero_le _, rfl, hown, hb1⟩
  case round =>
    obtain ⟨k, hk, rfl, hO, hB⟩ := hrel
    clear hown hb1 hg1
    by_cases hlt : k < xs.length
    · obtain ⟨ad, rfl, hb, hcell⟩ := hr (by omega)
      obtain ⟨x, hxk, hx0, hx1⟩ := p2_atA hcell hlt hB hb
      clear hcell hr
      go_wp2_with fail
      refine (toHold x _).mono ?_
      rintro e w2 ⟨rfl, hb2⟩
      have hO2 := ownsRow_below hO hb2
      have hB2 := hB.trans (hb2.mono hB.size)
      have hcA := fun j (hj : j < 2) => (hO2.cellAt (k * 2 + j) (by omega)).trans (p2Part_at hlt j hj)
      have hc0 := hcA 0 (by omega)
      have hc1 := hcA 1 (by omega)
      have hf0 := hO2.frozenAt (k * 2)
      have hf1 := hO2.frozenAt (k * 2 + 1)
      rw [Nat.add_zero] at hc0
      clear hcA
      go_wp2_with fail
      exact ⟨⟨k + 1, by omega, by go_num, (p2Part_set hxk.out) ▸ owns_set2 hO2 (k * 2) (k * 2 + 1) (.int .i64 x.a) (.int .i64 x.b), below_set2 hB2 (Nat.le_refl _) _ _ _ _⟩, by simp [intOf]; omega⟩
    · go_wp2_with fail
      go_ret
      obtain rfl : k = xs.length := by omega
      rw [p2Part_all] at hO
      obtain ⟨bs, h1, h2⟩ := Own.of_owns hO
      exact ⟨_, bs, rfl, h1, h2, hB⟩
set_option maxHeartbeats 800000 in
theorem eqHold (x y : P2) (w : World) :
    Calls Try.prog 23 #[.agg #[.int .i64 x.a, .int .i64 x.b], .agg #[.int .i64 y.a, .int .i64 y.b]] w fun e w' => e = .returned (.bool (decide (x = y))) ∧ Below w.heap.size w w' := by
  obtain ⟨a, b⟩ := x
  obtain ⟨a', b'⟩ := y
  have hB := ((Below.refl w.heap.size w).alloc (Nat.le_refl _) (.cells #[.int .i64 a, .int .i64 b] 44)).alloc (by simp) (.cells #[.int .i64 a', .int .i64 b'] 44)
  have hN : ∀ (p q : Int), ¬ p = q → (p != q) = true := fun p q h => by simp [h]
  have HB := Lib.hid hB
  clear hB
  by_cases h1 : a = a'
  · by_cases h2 : b = b'
    · subst h1 h2
      clear hN
      go_enter Try.func23, Try.ntmps23
      go_wp2_with fail
      go_ret
      exact ⟨ret_bool (by simp), HB.out⟩
    · have e := hN _ _ h2
      have HD : Hid (decide (P2.mk a b = P2.mk a' b') = false) := Lib.hid (by simp [h2])
      subst h1
      clear hN h2
      go_enter Try.func23, Try.ntmps23
      go_wp2_with fail
      go_ret
      exact ⟨ret_bool HD.out.symm, HB.out⟩
  · have e := hN _ _ h1
    have HD : Hid (decide (P2.mk a b = P2.mk a' b') = false) := Lib.hid (by simp [h1])
    clear hN h1
    go_enter Try.func23, Try.ntmps23
    go_wp2_with fail
    go_ret
    exact ⟨ret_bool HD.out.symm, HB.out⟩
set_option maxHeartbeats 1600000 in
theorem eqHoldS (v u : Value) (xs ys : List P2) (w : World) (h : Rd w v 2 xs.length (flc2 xs)) (h' : Rd w u 2 ys.length (flc2 ys)) :
    Calls Try.prog 16 #[v, u] w fun e w' => e = .returned (.bool (decide (xs = ys))) ∧ Below w.heap.size w w' := by
  obtain ⟨A, c, rfl, -, hnc, hc, hr⟩ := h
  obtain ⟨A', c', rfl, -, hnc', hc', hr'⟩ := h'
  unfold maxLen at hc hc'
  by_cases hlen : xs.length = ys.length
  · have hne : ((xs.length : Int) != (ys.length : Int)) = false := by simp [hlen]
    have hlen' : xs.length ≤ ys.length ∧ ys.length ≤ xs.length := by omega
    clear hlen
    go_enter Try.func16, Try.ntmps16
    go_wp2_with fail
    go_loopw [5] (fun i wr => ∃ k : Nat, k ≤ xs.length ∧ i = .int .i64 k ∧ Hid (xs.take k = ys.take k) ∧ Below w.heap.size w wr) (fun i _ => xs.length - (intOf i).toNat)
    case atStart => exact ⟨0, Nat.zero_le _, rfl, Lib.hid (by simp), Below.refl _ _⟩
    case round =>
      obtain ⟨k, hk, rfl, HT, hB⟩ := hrel
      by_cases hlt : k < xs.length
      · obtain ⟨b, o, rfl, hb, hcell⟩ := hr (by omega)
        obtain ⟨b', o', rfl, hb', hcell'⟩ := hr' (by omega)
        obtain ⟨x, hxk, hx0, hx1⟩ := p2_at (fun j u hu => (hB.cell (p := ⟨b, o + j, none⟩) hb).trans (hcell j u hu)) hlt
        obtain ⟨y, hyk, hy0, hy1⟩ := p2_at (k := k) (fun j u hu => (hB.cell (p := ⟨b', o' + j, none⟩) hb').trans (hcell' j u hu)) (by omega)
        have hlt2 : k < ys.length := by omega
        have hlt3 : ((k : Int) < ys.length) := by omega
        have lb : b < wr.heap.size := Nat.lt_of_lt_of_le hb hB.size
        have lb' : b' < wr.heap.size := Nat.lt_of_lt_of_le hb' hB.size
        clear hcell hcell' hr hr'
        go_wp2_with fail
        have HS : Hid (∀ W : World, Below wr.heap.size wr W → Below wr.heap.size wr W ∧ W.cell? ⟨b, o + k * 2, none⟩ = some (.int .i64 x.a) ∧ W.cell? ⟨b, o + k * 2 + 1, none⟩ = some (.int .i64 x.b) ∧
          W.cell? ⟨b', o' + k * 2, none⟩ = some (.int .i64 y.a) ∧ W.cell? ⟨b', o' + k * 2 + 1, none⟩ = some (.int .i64 y.b)) :=
          Lib.hid fun W hW => ⟨hW, (hW.cell (p := ⟨b, o + k * 2, none⟩) lb).trans hx0, (hW.cell (p := ⟨b, o + k * 2 + 1, none⟩) lb).trans hx1,
            (hW.cell (p := ⟨b', o' + k * 2, none⟩) lb').trans hy0, (hW.cell (p := ⟨b', o' + k * 2 + 1, none⟩) lb').trans hy1⟩
        have HB := Lib.hid hB
        clear hB
        go_region_held3 (fun W => Below wr.heap.size wr W ∧ W.cell? ⟨b, o + k * 2, none⟩ = some (.int .i64 x.a) ∧ W.cell? ⟨b, o + k * 2 + 1, none⟩ = some (.int .i64 x.b) ∧
          W.cell? ⟨b', o' + k * 2, none⟩ = some (.int .i64 y.a) ∧ W.cell? ⟨b', o' + k * 2 + 1, none⟩ = some (.int .i64 y.b)) (first | (exact HS.out _ (Below.refl _ _).drew) | (exact HS.out _ (by assumption)))
          (first
            | (go_at_call 23; have hS := ‹Below wr.heap.size wr _ ∧ _›.1; refine (eqHold x y _).mono ?_; rintro e w9 ⟨rfl, hb9⟩; have hS2 := hS.trans (hb9.mono hS.size); clear hS))
        have hS := ‹Below wr.heap.size wr _ ∧ _›.1
        clear HS
        have hBn := HB.out.trans (hS.mono HB.out.size)
        clear HB hx0 hx1 hy0 hy1 hb9
        have HBn := Lib.hid hBn
        clear hBn hS
        cases hd : decide (x = y)
        · have hn : decide (xs = ys) = false := by
            rw [decide_eq_false_iff_not]
            rintro rfl
            have := hxk.out.symm.trans hyk.out
            injection this with this
            simp [this] at hd
          have HN := Lib.hid hn
          clear hn hd
          go_wp2_with fail
          go_ret
          exact ⟨ret_bool HN.out.symm, HBn.out⟩
        · have e : x = y := by simpa using hd
          have HE := Lib.hid e
          clear e hd
          go_wp2_with fail
          exact ⟨⟨k + 1, by omega, by go_num, Lib.hid (take_snoc_eq HT.out (hxk.out.trans (by rw [hyk.out, HE.out]))), HBn.out⟩, by simp [intOf]; omega⟩
      · go_wp2_with fail
        go_ret
        refine ⟨ret_bool ?_, hB⟩
        have h1 := HT.out
        rw [List.take_of_length_le (by omega), List.take_of_length_le (by omega)] at h1
        simp [h1]
  · have hne : ((xs.length : Int) != (ys.length : Int)) = true := by simp; omega
    go_enter Try.func16, Try.ntmps16
    go_wp2_with fail
    go_ret
    exact ⟨ret_bool (by simp; intro e; exact hlen (by rw [e])), Below.refl _ _⟩
set_option maxHeartbeats 1600000 in
theorem szBench (a b c d : Value) (B : Bn) (left : Int) (w : World) (h : RdABn w a b c d B) (hl0 : -1 ≤ left) (hl : left ≤ 1048576) :
    Calls Try.prog 4 #[.agg #[a, b, c, d, .int .i64 B.n], .int .i64 left] w fun e w' => e = .returned (.int .i64 (szF (szBn B) left)) ∧ Below w.heap.size w w' := by
  obtain ⟨A1, c1, A2, c2, A3, c3, A4, c4, rfl, rfl, rfl, rfl⟩ := h.slices
  have hB0 := (Below.refl w.heap.size w).alloc (Nat.le_refl _) (.cells #[.slice A1 B.l.length c1, .slice A2 B.h.length c2, .slice A3 B.w.length c3, .slice A4 B.f.length c4, .int .i64 B.n] 25)
  have K0 := Bk.new w #[.slice A1 B.l.length c1, .slice A2 B.h.length c2, .slice A3 B.w.length c3, .slice A4 B.f.length c4, .int .i64 B.n] 25
  go_enter Try.func4, Try.ntmps4
  obtain ⟨hc0, hf0⟩ := K0.at_ 0 (x := .slice A1 B.l.length c1) rfl
  have HB0 := Lib.hid hB0
  clear hB0
  go_wp2_with fail
  refine (toB (szIntS _ _ _ (left) _ (h.l.below HB0.out) (by omega) (by omega))).mono ?_
  rintro e w1 ⟨rfl, hb1⟩
  have HB1 := Lib.hid (HB0.out.trans (hb1.mono HB0.out.size))
  by_cases hx1 : (left) - B.l.length < 0
  · have hs : Hid (szF (szBn B) left = -1) := Lib.hid (by unfold szF szBn; rw [if_pos (by omega)])
    rw [show szF B.l.length (left) = -1 by unfold szF; rw [if_pos hx1]]
    clear hx1 hc0 hf0
    go_wp2_with fail
    go_ret
    exact ⟨ret_int hs.out.symm, HB1.out⟩
  rw [show szF B.l.length (left) = left - B.l.length by unfold szF; rw [if_neg hx1]]
  clear hc0 hf0
  have K1 := K0.below hb1 K0.lt
  obtain ⟨hc1, hf1⟩ := K1.at_ 1 (x := .slice A2 B.h.length c2) rfl
  clear hb1 K0
  go_wp2_with fail
  refine (toB (szHoldS _ _ _ (left - B.l.length) _ (h.h.below HB1.out) (by omega) (by omega))).mono ?_
  rintro e w2 ⟨rfl, hb2⟩
  have HB2 := Lib.hid (HB1.out.trans (hb2.mono HB1.out.size))
  by_cases hx2 : (left - B.l.length) - B.h.length < 0
  · have hs : Hid (szF (szBn B) left = -1) := Lib.hid (by unfold szF szBn; rw [if_pos (by omega)])
    rw [show szF B.h.length (left - B.l.length) = -1 by unfold szF; rw [if_pos hx2]]
    clear hx2 hc1 hf1
    go_wp2_with fail
    go_ret
    exact ⟨ret_int hs.out.symm, HB2.out⟩
  rw [show szF B.h.length (left - B.l.length) = left - B.l.length - B.h.length by unfold szF; rw [if_neg hx2]]
  clear hc1 hf1
  have K2 := K1.below hb2 K1.lt
  obtain ⟨hc2, hf2⟩ := K2.at_ 2 (x := .slice A3 B.w.length c3) rfl
  clear hb2 K1
  go_wp2_with fail
  refine (toB (szIntS _ _ _ (left - B.l.length - B.h.length) _ (h.q.below HB2.out) (by omega) (by omega))).mono ?_
  rintro e w3 ⟨rfl, hb3⟩
  have HB3 := Lib.hid (HB2.out.trans (hb3.mono HB2.out.size))
  by_cases hx3 : (left - B.l.length - B.h.length) - B.w.length < 0
  · have hs : Hid (szF (szBn B) left = -1) := Lib.hid (by unfold szF szBn; rw [if_pos (by omega)])
    rw [show szF B.w.length (left - B.l.length - B.h.length) = -1 by unfold szF; rw [if_pos hx3]]
    clear hx3 hc2 hf2
    go_wp2_with fail
    go_ret
    exact ⟨ret_int hs.out.symm, HB3.out⟩
  rw [show szF B.w.length (left - B.l.length - B.h.length) = left - B.l.length - B.h.length - B.w.length by unfold szF; rw [if_neg hx3]]
  clear hc2 hf2
  have K3 := K2.below hb3 K2.lt
  obtain ⟨hc3, hf3⟩ := K3.at_ 3 (x := .slice A4 B.f.length c4) rfl
  clear hb3 K2
  go_wp2_with fail
  refine (toB (szIntS _ _ _ (left - B.l.length - B.h.length - B.w.length) _ (h.f.below HB3.out) (by omega) (by omega))).mono ?_
  rintro e w4 ⟨rfl, hb4⟩
  have HB4 := Lib.hid (HB3.out.trans (hb4.mono HB3.out.size))
  by_cases hx4 : (left - B.l.length - B.h.length - B.w.length) - B.f.length < 0
  · have hs : Hid (szF (szBn B) left = -1) := Lib.hid (by unfold szF szBn; rw [if_pos (by omega)])
    rw [show szF B.f.length (left - B.l.length - B.h.length - B.w.length) = -1 by unfold szF; rw [if_pos hx4]]
    clear hx4 hc3 hf3
    go_wp2_with fail
    go_ret
    exact ⟨ret_int hs.out.symm, HB4.out⟩
  rw [show szF B.f.length (left - B.l.length - B.h.length - B.w.length) = left - B.l.length - B.h.length - B.w.length - B.f.length by unfold szF; rw [if_neg hx4]]
  clear hc3 hf3
  have hs : Hid (szF (szBn B) left = left - B.l.length - B.h.length - B.w.length - B.f.length) := Lib.hid (by unfold szF szBn; rw [if_neg (by omega)]; omega)
  go_wp2_with fail
  go_ret
  exact ⟨ret_int hs.out.symm, HB4.out⟩
set_option maxHeartbeats 6400000 in
theorem toBench (a b c d : Value) (B : Bn) (w : World) (h : RdABn w a b c d B) (hsz : szBn B ≤ 1048576) :
    Calls Try.prog 6 #[.agg #[a, b, c, d, .int .i64 B.n]] w (RetBn B w) := by
  obtain ⟨A1, c1, A2, c2, A3, c3, A4, c4, rfl, rfl, rfl, rfl⟩ := h.slices
  have hsm : (B.l.length ≤ 1048576 ∧ B.h.length ≤ 1048576) ∧ B.w.length ≤ 1048576 ∧ B.f.length ≤ 1048576 := by unfold szBn at hsz; omega
  obtain ⟨W0, hW0⟩ : ∃ W0, W0 = ((w.alloc (.cells #[.slice A1 B.l.length c1, .slice A2 B.h.length c2, .slice A3 B.w.length c3, .slice A4 B.f.length c4, .int .i64 B.n] 25)).alloc (.cells #[.slice none 0 0, .slice none 0 0, .slice none 0 0, .slice none 0 0, .int .i64 0] 30)).alloc (.cells #[.slice none 0 0, .slice none 0 0, .slice none 0 0, .slice none 0 0, .int .i64 0] 30) := ⟨_, rfl⟩
  have hB0 := (((Below.refl w.heap.size w).alloc (Nat.le_refl _) (.cells #[.slice A1 B.l.length c1, .slice A2 B.h.length c2, .slice A3 B.w.length c3, .slice A4 B.f.length c4, .int .i64 B.n] 25)).alloc (by simp) (.cells #[.slice none 0 0, .slice none 0 0, .slice none 0 0, .slice none 0 0, .int .i64 0] 30)).alloc (by simp; omega) (.cells #[.slice none 0 0, .slice none 0 0, .slice none 0 0, .slice none 0 0, .int .i64 0] 30)
  have p0 := ((Bk.new w #[.slice A1 B.l.length c1, .slice A2 B.h.length c2, .slice A3 B.w.length c3, .slice A4 B.f.length c4, .int .i64 B.n] 25).alloc (.cells #[.slice none 0 0, .slice none 0 0, .slice none 0 0, .slice none 0 0, .int .i64 0] 30)).alloc (.cells #[.slice none 0 0, .slice none 0 0, .slice none 0 0, .slice none 0 0, .int .i64 0] 30)
  have r0 := (Bk.new (w.alloc (.cells #[.slice A1 B.l.length c1, .slice A2 B.h.length c2, .slice A3 B.w.length c3, .slice A4 B.f.length c4, .int .i64 B.n] 25)) #[.slice none 0 0, .slice none 0 0, .slice none 0 0, .slice none 0 0, .int .i64 0] 30).alloc (.cells #[.slice none 0 0, .slice none 0 0, .slice none 0 0, .slice none 0 0, .int .i64 0] 30)
  have o0 := Bk.new ((w.alloc (.cells #[.slice A1 B.l.length c1, .slice A2 B.h.length c2, .slice A3 B.w.length c3, .slice A4 B.f.length c4, .int .i64 B.n] 25)).alloc (.cells #[.slice none 0 0, .slice none 0 0, .slice none 0 0, .slice none 0 0, .int .i64 0] 30)) #[.slice none 0 0, .slice none 0 0, .slice none 0 0, .slice none 0 0, .int .i64 0] 30
  simp only [World.size_alloc] at r0 o0
  rw [← hW0] at hB0 p0 r0 o0
  have HW0 := Lib.hid hW0
  have HB0 := Lib.hid hB0
  clear hW0 hB0
  go_enter Try.func6, Try.ntmps6
  go_wp2_with fail
  rw [← HW0.out]
  refine (toIntS _ B.l _ (h.l.below HB0.out) hsm.1.1).mono ?_
  rintro e w1 ⟨v1, bs1, rfl, ho1, lo1, hb1⟩
  obtain ⟨D1, d1, rfl, -, -⟩ := ho1.slice
  have lt0 := o0.lt
  have hq1 := HB0.out.trans (hb1.mono HB0.out.size)
  have p1' := p0.below hb1 p0.lt
  have r1' := r0.below hb1 r0.lt
  have o1' := o0.below hb1 o0.lt
  have hi1 := ho1.lt
  have q1 := o1'.at_ 0 (x := .slice none 0 0) rfl
  have p1 := p1'.far (p := ⟨w.heap.size + 1 + 1, 0, none⟩) (by simp; omega) (.slice D1 B.l.length d1)
  have r1 := r1'.far (p := ⟨w.heap.size + 1 + 1, 0, none⟩) (by simp) (.slice D1 B.l.length d1)
  have o1 := o1'.set_ 0 (.slice D1 B.l.length d1)
  have HB1 := Lib.hid (hq1.setCell (p := ⟨w.heap.size + 1 + 1, 0, none⟩) (by show w.heap.size ≤ w.heap.size + 1 + 1; omega) (.slice D1 B.l.length d1))
  have ho1x1' := ho1.far (b := w.heap.size + 1 + 1) (i := 0) (u := .slice D1 B.l.length d1) fun k hk => by have := lo1 k hk; omega
  have ho1x1 := ho1x1'
  clear ho1x1'
  obtain ⟨hc1, hf1⟩ := p1.at_ 1 (x := .slice A2 B.h.length c2) rfl
  obtain ⟨hq1c, hq1f⟩ := q1
  clear hq1 p1' r1' o1'
  go_wp2_with fail
  refine (toHoldS _ B.h _ (h.h.below HB1.out) hsm.1.2).mono ?_
  rintro e w2 ⟨v2, bs2, rfl, ho2, lo2, hb2⟩
  obtain ⟨D2, d2, rfl, -, -⟩ := ho2.slice
  have lt1 := o1.lt
  have hq2 := HB1.out.trans (hb2.mono HB1.out.size)
  have p2' := p1.below hb2 p1.lt
  have r2' := r1.below hb2 r1.lt
  have o2' := o1.below hb2 o1.lt
  have ho1x2 := ho1x1.below hb2
  have hi2 := ho2.lt
  have q2 := o2'.at_ 1 (x := .slice none 0 0) rfl
  have p2 := p2'.far (p := ⟨w.heap.size + 1 + 1, 1, none⟩) (by simp; omega) (.slice D2 B.h.length d2)
  have r2 := r2'.far (p := ⟨w.heap.size + 1 + 1, 1, none⟩) (by simp) (.slice D2 B.h.length d2)
  have o2 := o2'.set_ 1 (.slice D2 B.h.length d2)
  have HB2 := Lib.hid (hq2.setCell (p := ⟨w.heap.size + 1 + 1, 1, none⟩) (by show w.heap.size ≤ w.heap.size + 1 + 1; omega) (.slice D2 B.h.length d2))
  have ho1x2' := ho1x2.far (b := w.heap.size + 1 + 1) (i := 1) (u := .slice D2 B.h.length d2) fun k hk => by have := lo1 k hk; have := lt0; omega
  have ho2x2' := ho2.far (b := w.heap.size + 1 + 1) (i := 1) (u := .slice D2 B.h.length d2) fun k hk => by have := lo2 k hk; omega
  have ho1x2 := ho1x2'
  clear ho1x2'
  have ho2x2 := ho2x2'
  clear ho2x2'
  obtain ⟨hc2, hf2⟩ := p2.at_ 2 (x := .slice A3 B.w.length c3) rfl
  obtain ⟨hq2c, hq2f⟩ := q2
  clear hq2 p2' r2' o2'
  go_wp2_with fail
  refine (toIntS _ B.w _ (h.q.below HB2.out) hsm.2.1).mono ?_
  rintro e w3 ⟨v3, bs3, rfl, ho3, lo3, hb3⟩
  obtain ⟨D3, d3, rfl, -, -⟩ := ho3.slice
  have lt2 := o2.lt
  have hq3 := HB2.out.trans (hb3.mono HB2.out.size)
  have p3' := p2.below hb3 p2.lt
  have r3' := r2.below hb3 r2.lt
  have o3' := o2.below hb3 o2.lt
  have ho1x3 := ho1x2.below hb3
  have ho2x3 := ho2x2.below hb3
  have hi3 := ho3.lt
  have q3 := o3'.at_ 2 (x := .slice none 0 0) rfl
  have p3 := p3'.far (p := ⟨w.heap.size + 1 + 1, 2, none⟩) (by simp; omega) (.slice D3 B.w.length d3)
  have r3 := r3'.far (p := ⟨w.heap.size + 1 + 1, 2, none⟩) (by simp) (.slice D3 B.w.length d3)
  have o3 := o3'.set_ 2 (.slice D3 B.w.length d3)
  have HB3 := Lib.hid (hq3.setCell (p := ⟨w.heap.size + 1 + 1, 2, none⟩) (by show w.heap.size ≤ w.heap.size + 1 + 1; omega) (.slice D3 B.w.length d3))
  have ho1x3' := ho1x3.far (b := w.heap.size + 1 + 1) (i := 2) (u := .slice D3 B.w.length d3) fun k hk => by have := lo1 k hk; have := lt0; omega
  have ho2x3' := ho2x3.far (b := w.heap.size + 1 + 1) (i := 2) (u := .slice D3 B.w.length d3) fun k hk => by have := lo2 k hk; have := lt1; omega
  have ho3x3' := ho3.far (b := w.heap.size + 1 + 1) (i := 2) (u := .slice D3 B.w.length d3) fun k hk => by have := lo3 k hk; omega
  have ho1x3 := ho1x3'
  clear ho1x3'
  have ho2x3 := ho2x3'
  clear ho2x3'
  have ho3x3 := ho3x3'
  clear ho3x3'
  obtain ⟨hc3, hf3⟩ := p3.at_ 3 (x := .slice A4 B.f.length c4) rfl
  obtain ⟨hq3c, hq3f⟩ := q3
  clear hq3 p3' r3' o3'
  go_wp2_with fail
  refine (toIntS _ B.f _ (h.f.below HB3.out) hsm.2.2).mono ?_
  rintro e w4 ⟨v4, bs4, rfl, ho4, lo4, hb4⟩
  obtain ⟨D4, d4, rfl, -, -⟩ := ho4.slice
  have lt3 := o3.lt
  have hq4 := HB3.out.trans (hb4.mono HB3.out.size)
  have p4' := p3.below hb4 p3.lt
  have r4' := r3.below hb4 r3.lt
  have o4' := o3.below hb4 o3.lt
  have ho1x4 := ho1x3.below hb4
  have ho2x4 := ho2x3.below hb4
  have ho3x4 := ho3x3.below hb4
  have hi4 := ho4.lt
  have q4 := o4'.at_ 3 (x := .slice none 0 0) rfl
  have p4 := p4'.far (p := ⟨w.heap.size + 1 + 1, 3, none⟩) (by simp; omega) (.slice D4 B.f.length d4)
  have r4 := r4'.far (p := ⟨w.heap.size + 1 + 1, 3, none⟩) (by simp) (.slice D4 B.f.length d4)
  have o4 := o4'.set_ 3 (.slice D4 B.f.length d4)
  have HB4 := Lib.hid (hq4.setCell (p := ⟨w.heap.size + 1 + 1, 3, none⟩) (by show w.heap.size ≤ w.heap.size + 1 + 1; omega) (.slice D4 B.f.length d4))
  have ho1x4' := ho1x4.far (b := w.heap.size + 1 + 1) (i := 3) (u := .slice D4 B.f.length d4) fun k hk => by have := lo1 k hk; have := lt0; omega
  have ho2x4' := ho2x4.far (b := w.heap.size + 1 + 1) (i := 3) (u := .slice D4 B.f.length d4) fun k hk => by have := lo2 k hk; have := lt1; omega
  have ho3x4' := ho3x4.far (b := w.heap.size + 1 + 1) (i := 3) (u := .slice D4 B.f.length d4) fun k hk => by have := lo3 k hk; have := lt2; omega
  have ho4x4' := ho4.far (b := w.heap.size + 1 + 1) (i := 3) (u := .slice D4 B.f.length d4) fun k hk => by have := lo4 k hk; omega
  have ho1x4 := ho1x4'
  clear ho1x4'
  have ho2x4 := ho2x4'
  clear ho2x4'
  have ho3x4 := ho3x4'
  clear ho3x4'
  have ho4x4 := ho4x4'
  clear ho4x4'
  obtain ⟨hc4, hf4⟩ := p4.at_ 4 (x := .int .i64 B.n) rfl
  obtain ⟨hq4c, hq4f⟩ := q4
  clear hq4 p4' r4' o4'
  obtain ⟨hz4, hzf4⟩ := o4.at_ 4 (x := .int .i64 0) rfl
  have o5 := o4.set_ 4 (.int .i64 B.n)
  have r5 := r4.far (p := ⟨w.heap.size + 1 + 1, 4, none⟩) (by simp) (.int .i64 B.n)
  obtain ⟨ho50, -⟩ := o5.at_ 0 (x := .slice D1 B.l.length d1) rfl
  obtain ⟨ho51, -⟩ := o5.at_ 1 (x := .slice D2 B.h.length d2) rfl
  obtain ⟨ho52, -⟩ := o5.at_ 2 (x := .slice D3 B.w.length d3) rfl
  obtain ⟨ho53, -⟩ := o5.at_ 3 (x := .slice D4 B.f.length d4) rfl
  obtain ⟨ho54, -⟩ := o5.at_ 4 (x := .int .i64 B.n) rfl
  obtain ⟨hr50, hrf50⟩ := r5.at_ 0 (x := .slice none 0 0) rfl
  have r50 := r5.set_ 0 (.slice D1 B.l.length d1)
  obtain ⟨hr51, hrf51⟩ := r50.at_ 1 (x := .slice none 0 0) rfl
  have r501 := r50.set_ 1 (.slice D2 B.h.length d2)
  obtain ⟨hr52, hrf52⟩ := r501.at_ 2 (x := .slice none 0 0) rfl
  have r5012 := r501.set_ 2 (.slice D3 B.w.length d3)
  obtain ⟨hr53, hrf53⟩ := r5012.at_ 3 (x := .slice none 0 0) rfl
  have r50123 := r5012.set_ 3 (.slice D4 B.f.length d4)
  obtain ⟨hr54, hrf54⟩ := r50123.at_ 4 (x := .int .i64 0) rfl
  have r501234 := r50123.set_ 4 (.int .i64 B.n)
  obtain ⟨z0, -⟩ := r501234.at_ 0 (x := .slice D1 B.l.length d1) rfl
  obtain ⟨z1, -⟩ := r501234.at_ 1 (x := .slice D2 B.h.length d2) rfl
  obtain ⟨z2, -⟩ := r501234.at_ 2 (x := .slice D3 B.w.length d3) rfl
  obtain ⟨z3, -⟩ := r501234.at_ 3 (x := .slice D4 B.f.length d4) rfl
  obtain ⟨z4, -⟩ := r501234.at_ 4 (x := .int .i64 B.n) rfl
  have s2 := hb2.size
  have s3 := hb3.size
  have s4 := hb4.size
  simp only [World.setCell, Array.size_modify] at s2 s3 s4 lo1 lo2 lo3 lo4 hi1 hi2 hi3 hi4 lt0 lt1 lt2 lt3
  go_wp2_with fail
  refine bodyPost_ret (v := .agg #[.slice D1 B.l.length d1, .slice D2 B.h.length d2, .slice D3 B.w.length d3, .slice D4 B.f.length d4, .int .i64 B.n]) (by simp [results, Try.results6, go_sem, z0, z1, z2, z3, z4]) rfl ⟨_, _, _, _, bs1 ++ (bs2 ++ (bs3 ++ bs4)), rfl, ?_, ?_, ?_⟩
  · refine ⟨bs1, bs2, bs3, bs4, ⟨?_, ?_, ?_, ?_⟩, ⟨fun b hb => ⟨fun hm => ?_, fun hm => ?_, fun hm => ?_⟩, fun b hb => ⟨fun hm => ?_, fun hm => ?_⟩, fun b hb hm => ?_⟩, rfl⟩
    · exact (((((ho1x4.far fun k hk => by have := lo1 k hk; omega).far fun k hk => by have := lo1 k hk; omega).far fun k hk => by have := lo1 k hk; omega).far fun k hk => by have := lo1 k hk; omega).far fun k hk => by have := lo1 k hk; omega).far fun k hk => by have := lo1 k hk; omega
    · exact (((((ho2x4.far fun k hk => by have := lo2 k hk; omega).far fun k hk => by have := lo2 k hk; omega).far fun k hk => by have := lo2 k hk; omega).far fun k hk => by have := lo2 k hk; omega).far fun k hk => by have := lo2 k hk; omega).far fun k hk => by have := lo2 k hk; omega
    · exact (((((ho3x4.far fun k hk => by have := lo3 k hk; omega).far fun k hk => by have := lo3 k hk; omega).far fun k hk => by have := lo3 k hk; omega).far fun k hk => by have := lo3 k hk; omega).far fun k hk => by have := lo3 k hk; omega).far fun k hk => by have := lo3 k hk; omega
    · exact (((((ho4x4.far fun k hk => by have := lo4 k hk; omega).far fun k hk => by have := lo4 k hk; omega).far fun k hk => by have := lo4 k hk; omega).far fun k hk => by have := lo4 k hk; omega).far fun k hk => by have := lo4 k hk; omega).far fun k hk => by have := lo4 k hk; omega
    · have := hi1 b hb; have := lo2 b hm; omega
    · have := hi1 b hb; have := lo3 b hm; omega
    · have := hi1 b hb; have := lo4 b hm; omega
    · have := hi2 b hb; have := lo3 b hm; omega
    · have := hi2 b hb; have := lo4 b hm; omega
    · have := hi3 b hb; have := lo4 b hm; omega
  · intro b hb
    simp only [List.mem_append] at hb
    rcases hb with hb | hb | hb | hb
    · have := lo1 b hb; omega
    · have := lo2 b hb; omega
    · have := lo3 b hb; omega
    · have := lo4 b hb; omega
  · exact (((((HB4.out.setCell (by show w.heap.size ≤ w.heap.size + 1 + 1; omega) _).setCell (Nat.le_succ _) _).setCell (Nat.le_succ _) _).setCell (Nat.le_succ _) _).setCell (Nat.le_succ _) _).setCell (Nat.le_succ _) _
theorem bn_eq {B C : Bn} (h1 : B.l = C.l) (h2 : B.h = C.h) (h3 : B.w = C.w) (h4 : B.f = C.f) (h5 : B.n = C.n) : B = C := by
  obtain ⟨b1, b2, b3, b4, b5⟩ := B
  obtain ⟨c1, c2, c3, c4, c5⟩ := C
  simp only at h1 h2 h3 h4 h5
  rw [h1, h2, h3, h4, h5]
set_option maxHeartbeats 1600000 in
theorem eqBench (a b c d a' b' c' d' : Value) (B C : Bn) (w : World) (h : RdBn w a b c d B) (h' : RdBn w a' b' c' d' C) :
    Calls Try.prog 8 #[.agg #[a, b, c, d, .int .i64 B.n], .agg #[a', b', c', d', .int .i64 C.n]] w fun e w' => e = .returned (.bool (decide (B = C))) ∧ Below w.heap.size w w' := by
  obtain ⟨A1, c1, A2, c2, A3, c3, A4, c4, ⟨rfl, rfl, rfl, rfl⟩, -⟩ := h.slices
  obtain ⟨E1, g1, E2, g2, E3, g3, E4, g4, ⟨rfl, rfl, rfl, rfl⟩, -⟩ := h'.slices
  have hB0 := ((Below.refl w.heap.size w).alloc (Nat.le_refl _) (.cells #[.slice A1 B.l.length c1, .slice A2 B.h.length c2, .slice A3 B.w.length c3, .slice A4 B.f.length c4, .int .i64 B.n] 30)).alloc (by simp) (.cells #[.slice E1 C.l.length g1, .slice E2 C.h.length g2, .slice E3 C.w.length g3, .slice E4 C.f.length g4, .int .i64 C.n] 30)
  have k0 := (Bk.new w #[.slice A1 B.l.length c1, .slice A2 B.h.length c2, .slice A3 B.w.length c3, .slice A4 B.f.length c4, .int .i64 B.n] 30).alloc (.cells #[.slice E1 C.l.length g1, .slice E2 C.h.length g2, .slice E3 C.w.length g3, .slice E4 C.f.length g4, .int .i64 C.n] 30)
  have j0 := Bk.new (w.alloc (.cells #[.slice A1 B.l.length c1, .slice A2 B.h.length c2, .slice A3 B.w.length c3, .slice A4 B.f.length c4, .int .i64 B.n] 30)) #[.slice E1 C.l.length g1, .slice E2 C.h.length g2, .slice E3 C.w.length g3, .slice E4 C.f.length g4, .int .i64 C.n] 30
  simp only [World.size_alloc] at j0
  have HB0 := Lib.hid hB0
  clear hB0
  go_enter Try.func8, Try.ntmps8
  go_wp2_with fail
  refine (eqIntSB _ _ B.l C.l _ (h.l.below HB0.out) (h'.l.below HB0.out)).mono ?_
  rintro e w1 ⟨rfl, hb1⟩
  have HB1 := Lib.hid (HB0.out.trans (hb1.mono HB0.out.size))
  have k1 := k0.below hb1 k0.lt
  have j1 := j0.below hb1 j0.lt
  obtain ⟨hk1, -⟩ := k1.at_ 1 (x := .slice A2 B.h.length c2) rfl
  obtain ⟨hj1, -⟩ := j1.at_ 1 (x := .slice E2 C.h.length g2) rfl
  clear hb1
  cases hd1 : decide (B.l = C.l)
  · have HD : Hid (decide (B = C) = false) := Lib.hid (by simp only [decide_eq_false_iff_not] at hd1 ⊢; exact fun h => hd1 (by rw [h]))
    clear hd1
    go_wp2_with fail
    go_ret
    exact ⟨ret_bool HD.out.symm, HB1.out⟩
  have HE1 : Hid (B.l = C.l) := Lib.hid (by simpa using hd1)
  clear hd1
  go_wp2_with fail
  refine (eqHoldS _ _ B.h C.h _ (h.h.below HB1.out) (h'.h.below HB1.out)).mono ?_
  rintro e w2 ⟨rfl, hb2⟩
  have HB2 := Lib.hid (HB1.out.trans (hb2.mono HB1.out.size))
  have k2 := k1.below hb2 k1.lt
  have j2 := j1.below hb2 j1.lt
  obtain ⟨hk2, -⟩ := k2.at_ 2 (x := .slice A3 B.w.length c3) rfl
  obtain ⟨hj2, -⟩ := j2.at_ 2 (x := .slice E3 C.w.length g3) rfl
  clear hb2
  cases hd2 : decide (B.h = C.h)
  · have HD : Hid (decide (B = C) = false) := Lib.hid (by simp only [decide_eq_false_iff_not] at hd2 ⊢; exact fun h => hd2 (by rw [h]))
    clear hd2
    go_wp2_with fail
    go_ret
    exact ⟨ret_bool HD.out.symm, HB2.out⟩
  have HE2 : Hid (B.h = C.h) := Lib.hid (by simpa using hd2)
  clear hd2
  go_wp2_with fail
  refine (eqIntSB _ _ B.w C.w _ (h.q.below HB2.out) (h'.q.below HB2.out)).mono ?_
  rintro e w3 ⟨rfl, hb3⟩
  have HB3 := Lib.hid (HB2.out.trans (hb3.mono HB2.out.size))
  have k3 := k2.below hb3 k2.lt
  have j3 := j2.below hb3 j2.lt
  obtain ⟨hk3, -⟩ := k3.at_ 3 (x := .slice A4 B.f.length c4) rfl
  obtain ⟨hj3, -⟩ := j3.at_ 3 (x := .slice E4 C.f.length g4) rfl
  clear hb3
  cases hd3 : decide (B.w = C.w)
  · have HD : Hid (decide (B = C) = false) := Lib.hid (by simp only [decide_eq_false_iff_not] at hd3 ⊢; exact fun h => hd3 (by rw [h]))
    clear hd3
    go_wp2_with fail
    go_ret
    exact ⟨ret_bool HD.out.symm, HB3.out⟩
  have HE3 : Hid (B.w = C.w) := Lib.hid (by simpa using hd3)
  clear hd3
  go_wp2_with fail
  refine (eqIntSB _ _ B.f C.f _ (h.f.below HB3.out) (h'.f.below HB3.out)).mono ?_
  rintro e w4 ⟨rfl, hb4⟩
  have HB4 := Lib.hid (HB3.out.trans (hb4.mono HB3.out.size))
  have k4 := k3.below hb4 k3.lt
  have j4 := j3.below hb4 j3.lt
  obtain ⟨hk4, -⟩ := k4.at_ 4 (x := .int .i64 B.n) rfl
  obtain ⟨hj4, -⟩ := j4.at_ 4 (x := .int .i64 C.n) rfl
  clear hb4
  cases hd4 : decide (B.f = C.f)
  · have HD : Hid (decide (B = C) = false) := Lib.hid (by simp only [decide_eq_false_iff_not] at hd4 ⊢; exact fun h => hd4 (by rw [h]))
    clear hd4
    go_wp2_with fail
    go_ret
    exact ⟨ret_bool HD.out.symm, HB4.out⟩
  have HE4 : Hid (B.f = C.f) := Lib.hid (by simpa using hd4)
  clear hd4
  by_cases hn : B.n = C.n
  · have HD : Hid (decide (B = C) = true) := Lib.hid (decide_eq_true (bn_eq HE1.out HE2.out HE3.out HE4.out hn))
    have hn' : (B.n != C.n) = false := by simp [hn]
    clear hn
    go_wp2_with fail
    go_ret
    exact ⟨ret_bool HD.out.symm, HB4.out⟩
  · have HD : Hid (decide (B = C) = false) := Lib.hid (decide_eq_false fun h => hn (by rw [h]))
    have hn' : (B.n != C.n) = true := by simp [hn]
    clear hn
    go_wp2_with fail
    go_ret
    exact ⟨ret_bool HD.out.symm, HB4.out⟩
end Go.Proofs.Ytkpgjeeofghldaa
