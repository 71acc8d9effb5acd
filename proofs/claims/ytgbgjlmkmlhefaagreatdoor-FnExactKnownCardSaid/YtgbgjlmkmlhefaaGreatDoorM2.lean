/- Contracts of the laws' helpers over instructions and codes: copy, size, equality, marks and their look-up. Condition: lengths as the law bounds them. -/
import Derived.Test.YtgbgjlmkmlhefaaGreatDoorFlat
import Derived.Test.YtgbgjlmkmlhefaaGreatDoorInts
import Derived.Deep.RegionHeld3
namespace Go.Proofs.YtgbgjlmkmlhefaaGreatDoor
set_option maxRecDepth 20000
set_option linter.unusedSimpArgs false
set_option linter.unusedVariables false
open Go.ChangeShapes Go.WideShapes Go.ChangeAt Go.RowKit
set_option linter.unusedVariables false
set_option maxHeartbeats 400000 in
theorem ins_op (i : Ins) (w : World) :
    Calls Tryz.prog 54 #[(Value.agg #[.int .i64 i.o, .int .i64 i.r, .int .i64 i.s, .int .i64 i.n])] w fun e w' => e = .returned (.int .i64 i.o) ∧ Below w.heap.size w w' := by
  go_enter Tryz.func54, Tryz.ntmps54
  go_wp2_with fail
  go_ret
  exact ⟨rfl, (Below.refl _ _).alloc (Nat.le_refl _) _⟩
theorem infoIns : (Tryz.prog.info? 37).map (fun i => (i.zero, i.size, i.bytes)) = some (some (.agg #[.int .i64 0, .int .i64 0, .int .i64 0, .int .i64 0]), 4, 32) := by kernel_rfl
set_option maxHeartbeats 800000 in
theorem eqInstr (x y : Ins) (w : World) :
    Calls Tryz.prog 92 #[(Value.agg #[.int .i64 x.o, .int .i64 x.r, .int .i64 x.s, .int .i64 x.n]), (Value.agg #[.int .i64 y.o, .int .i64 y.r, .int .i64 y.s, .int .i64 y.n])] w fun e w' => e = .returned (.bool (decide (x = y))) ∧ Below w.heap.size w w' := by
  obtain ⟨a, b, c, d⟩ := x
  obtain ⟨a', b', c', d'⟩ := y
  have hB := ((Below.refl w.heap.size w).alloc (Nat.le_refl _) (.cells #[.int .i64 a, .int .i64 b, .int .i64 c, .int .i64 d] 37)).alloc (by simp) (.cells #[.int .i64 a', .int .i64 b', .int .i64 c', .int .i64 d'] 37)
  have hN : ∀ (p q : Int), ¬ p = q → (p != q) = true := fun p q h => by simp [h]
  have HB := Lib.hid hB
  clear hB
  by_cases h1 : a = a'
  · by_cases h2 : b = b'
    · by_cases h3 : c = c'
      · by_cases h4 : d = d'
        · subst h1 h2 h3 h4
          clear hN
          go_enter Tryz.func92, Tryz.ntmps92
          go_wp2_with fail
          go_ret
          exact ⟨ret_bool (by simp), HB.out⟩
        · have e := hN _ _ h4
          have HD : Hid (decide (Ins.mk a b c d = Ins.mk a' b' c' d') = false) := Lib.hid (by simp [h4])
          subst h1 h2 h3
          clear hN h4
          go_enter Tryz.func92, Tryz.ntmps92
          go_wp2_with fail
          go_ret
          exact ⟨ret_bool HD.out.symm, HB.out⟩
      · have e := hN _ _ h3
        have HD : Hid (decide (Ins.mk a b c d = Ins.mk a' b' c' d') = false) := Lib.hid (by simp [h3])
        subst h1 h2
        clear hN h3
        go_enter Tryz.func92, Tryz.ntmps92
        go_wp2_with fail
        go_ret
        exact ⟨ret_bool HD.out.symm, HB.out⟩
    · have e := hN _ _ h2
      have HD : Hid (decide (Ins.mk a b c d = Ins.mk a' b' c' d') = false) := Lib.hid (by simp [h2])
      subst h1
      clear hN h2
      go_enter Tryz.func92, Tryz.ntmps92
      go_wp2_with fail
      go_ret
      exact ⟨ret_bool HD.out.symm, HB.out⟩
  · have e := hN _ _ h1
    have HD : Hid (decide (Ins.mk a b c d = Ins.mk a' b' c' d') = false) := Lib.hid (by simp [h1])
    clear hN h1
    go_enter Tryz.func92, Tryz.ntmps92
    go_wp2_with fail
    go_ret
    exact ⟨ret_bool HD.out.symm, HB.out⟩
set_option maxHeartbeats 1600000 in
theorem eqInstrS (v u : Value) (xs ys : List Ins) (w : World) (h : Rd w v 4 xs.length (flc xs)) (h' : Rd w u 4 ys.length (flc ys)) :
    Calls Tryz.prog 71 #[v, u] w fun e w' => e = .returned (.bool (decide (xs = ys))) ∧ Below w.heap.size w w' := by
  obtain ⟨A, c, rfl, -, hnc, hc, hr⟩ := h
  obtain ⟨A', c', rfl, -, hnc', hc', hr'⟩ := h'
  unfold maxLen at hc hc'
  by_cases hlen : xs.length = ys.length
  · have hne : ((xs.length : Int) != (ys.length : Int)) = false := by simp [hlen]
    have hlen' : xs.length ≤ ys.length ∧ ys.length ≤ xs.length := by omega
    clear hlen
    go_enter Tryz.func71, Tryz.ntmps71
    go_wp2_with fail
    go_loopw [5] (fun i wr => ∃ k : Nat, k ≤ xs.length ∧ i = .int .i64 k ∧ Hid (xs.take k = ys.take k) ∧ Below w.heap.size w wr) (fun i _ => xs.length - (intOf i).toNat)
    case atStart => exact ⟨0, Nat.zero_le _, rfl, Lib.hid (by simp), Below.refl _ _⟩
    case round =>
      obtain ⟨k, hk, rfl, HT, hB⟩ := hrel
      by_cases hlt : k < xs.length
      · obtain ⟨b, o, rfl, hb, hcell⟩ := hr (by omega)
        obtain ⟨b', o', rfl, hb', hcell'⟩ := hr' (by omega)
        obtain ⟨x, hxk, hx0, hx1, hx2, hx3⟩ := ins_at (fun j u hu => (hB.cell (p := ⟨b, o + j, none⟩) hb).trans (hcell j u hu)) hlt
        obtain ⟨y, hyk, hy0, hy1, hy2, hy3⟩ := ins_at (k := k) (fun j u hu => (hB.cell (p := ⟨b', o' + j, none⟩) hb').trans (hcell' j u hu)) (by omega)
        have hlt2 : k < ys.length := by omega
        have hlt3 : ((k : Int) < ys.length) := by omega
        have lb : b < wr.heap.size := Nat.lt_of_lt_of_le hb hB.size
        have lb' : b' < wr.heap.size := Nat.lt_of_lt_of_le hb' hB.size
        clear hcell hcell' hr hr'
        go_wp2_with fail
        have HS : Hid (∀ W : World, Below wr.heap.size wr W → Below wr.heap.size wr W ∧ W.cell? ⟨b, o + k * 4, none⟩ = some (.int .i64 x.o) ∧ W.cell? ⟨b, o + k * 4 + 1, none⟩ = some (.int .i64 x.r) ∧
          W.cell? ⟨b, o + k * 4 + 2, none⟩ = some (.int .i64 x.s) ∧ W.cell? ⟨b, o + k * 4 + 3, none⟩ = some (.int .i64 x.n) ∧ W.cell? ⟨b', o' + k * 4, none⟩ = some (.int .i64 y.o) ∧ W.cell? ⟨b', o' + k * 4 + 1, none⟩ = some (.int .i64 y.r) ∧
          W.cell? ⟨b', o' + k * 4 + 2, none⟩ = some (.int .i64 y.s) ∧ W.cell? ⟨b', o' + k * 4 + 3, none⟩ = some (.int .i64 y.n)) :=
          Lib.hid fun W hW => ⟨hW, (hW.cell (p := ⟨b, o + k * 4, none⟩) lb).trans hx0, (hW.cell (p := ⟨b, o + k * 4 + 1, none⟩) lb).trans hx1, (hW.cell (p := ⟨b, o + k * 4 + 2, none⟩) lb).trans hx2, (hW.cell (p := ⟨b, o + k * 4 + 3, none⟩) lb).trans hx3,
            (hW.cell (p := ⟨b', o' + k * 4, none⟩) lb').trans hy0, (hW.cell (p := ⟨b', o' + k * 4 + 1, none⟩) lb').trans hy1, (hW.cell (p := ⟨b', o' + k * 4 + 2, none⟩) lb').trans hy2, (hW.cell (p := ⟨b', o' + k * 4 + 3, none⟩) lb').trans hy3⟩
        have HB := Lib.hid hB
        clear hB
        go_region_held3 (fun W => Below wr.heap.size wr W ∧ W.cell? ⟨b, o + k * 4, none⟩ = some (.int .i64 x.o) ∧ W.cell? ⟨b, o + k * 4 + 1, none⟩ = some (.int .i64 x.r) ∧
          W.cell? ⟨b, o + k * 4 + 2, none⟩ = some (.int .i64 x.s) ∧ W.cell? ⟨b, o + k * 4 + 3, none⟩ = some (.int .i64 x.n) ∧ W.cell? ⟨b', o' + k * 4, none⟩ = some (.int .i64 y.o) ∧ W.cell? ⟨b', o' + k * 4 + 1, none⟩ = some (.int .i64 y.r) ∧
          W.cell? ⟨b', o' + k * 4 + 2, none⟩ = some (.int .i64 y.s) ∧ W.cell? ⟨b', o' + k * 4 + 3, none⟩ = some (.int .i64 y.n)) (first | (exact HS.out _ (Below.refl _ _).drew) | (exact HS.out _ (by assumption)))
          (first
            | (go_at_call 92; have hS := ‹Below wr.heap.size wr _ ∧ _›.1; refine (eqInstr x y _).mono ?_; rintro e w9 ⟨rfl, hb9⟩; have hS2 := hS.trans (hb9.mono hS.size); clear hS))
        have hS := ‹Below wr.heap.size wr _ ∧ _›.1
        clear HS
        have hBn := HB.out.trans (hS.mono HB.out.size)
        clear HB hx0 hx1 hx2 hx3 hy0 hy1 hy2 hy3 hb9
        have HBn := Lib.hid hBn
        clear hBn hS
        cases hd : decide (x = y)
        · have hn : decide (xs = ys) = false := by
            rw [decide_eq_false_iff_not]
            rintro rfl
            have := hxk.out.symm.trans hyk.out
            injection this with this
            simp [this] at hd
          have HN := Lib.hid hn
          clear hn hd
          go_wp2_with fail
          go_ret
          exact ⟨ret_bool HN.out.symm, HBn.out⟩
        · have e : x = y := by simpa using hd
          have HE := Lib.hid e
          clear e hd
          go_wp2_with fail
          exact ⟨⟨k + 1, by omega, by go_num, Lib.hid (take_snoc_eq HT.out (hxk.out.trans (by rw [hyk.out, HE.out]))), HBn.out⟩, by simp [intOf]; omega⟩
      · go_wp2_with fail
        go_ret
        refine ⟨ret_bool ?_, hB⟩
        have h1 := HT.out
        rw [List.take_of_length_le (by omega), List.take_of_length_le (by omega)] at h1
        simp [h1]
  · have hne : ((xs.length : Int) != (ys.length : Int)) = true := by simp; omega
    go_enter Tryz.func71, Tryz.ntmps71
    go_wp2_with fail
    go_ret
    exact ⟨ret_bool (by simp; intro e; exact hlen (by rw [e])), Below.refl _ _⟩
set_option maxHeartbeats 800000 in
theorem markInstrS (v : Value) (zs : List Int) (n : Nat) (bs : List Nat) (m : Int) (w : World) (h : Own w v 4 n (ints zs) bs) (hsz : n ≤ 16777216) (hm0 : 0 ≤ m) (hm : m ≤ 1099511627776) :
    Calls Tryz.prog 72 #[v, .int .i64 m] w fun e w' => e = .returned (.int .i64 (m + n * 4)) ∧ Own w' v 4 n (ints (marked (n * 4) m)) bs ∧ Only bs w w' := by
  obtain ⟨A, c, rfl, hl, hnc, hc, hr⟩ := h
  unfold maxLen at hc
  rw [ints_len] at hl
  rcases hr with ⟨rfl, rfl⟩ | ⟨hpos, b, o, rfl, rfl, hb, hat⟩
  · go_enter Tryz.func72, Tryz.ntmps72
    go_wp2
    go_loop [1, 5] (fun mm i => i = .int .i64 0 ∧ mm = .int .i64 m) (fun _ _ => 0)
    case atStart => exact ⟨rfl, rfl⟩
    case round =>
      obtain ⟨rfl, rfl⟩ := hrel
      go_wp2
      go_ret
      exact ⟨ret_int (by simp), ⟨A, c, rfl, by simp [ints, marked], hnc, hc, .inl ⟨rfl, rfl⟩⟩, Only.refl _ _⟩
  · go_enter Tryz.func72, Tryz.ntmps72
    go_wp2
    go_loopw [1, 5] (fun mm i wr => ∃ k : Nat, k ≤ n ∧ i = .int .i64 k ∧ mm = .int .i64 (m + k * 4) ∧ At wr b o (markPart zs m (k * 4)) ∧ Only [b] w wr) (fun _ i _ => n - (intOf i).toNat)
    case atStart => exact ⟨0, Nat.zero_le _, rfl, by simp, by simpa [markPart, marked, ints] using hat, Only.refl _ _⟩
    case round =>
      obtain ⟨k, hk, rfl, rfl, hA, hO⟩ := hrel
      clear hat
      by_cases hlt : k < n
      · obtain ⟨hc0, hf0⟩ := hA (k * 4) _ (markPart_at (by omega))
        obtain ⟨hc1, hf1⟩ := hA (k * 4 + 1) _ (markPart_next (by omega) 1 (by omega))
        obtain ⟨hc2, hf2⟩ := hA (k * 4 + 2) _ (markPart_next (by omega) 2 (by omega))
        obtain ⟨hc3, hf3⟩ := hA (k * 4 + 3) _ (markPart_next (by omega) 3 (by omega))
        simp only [← Nat.add_assoc] at hc1 hf1 hc2 hf2 hc3 hf3
        go_wp2_with fail
        refine ⟨⟨k + 1, by omega, by go_num, by go_num, ?_, ?_⟩, by simp [intOf]; omega⟩
        · rw [← markPart_set4 (xs := zs) (m := m) (k := k) (by omega)]
          exact (((hA.set_ (k * 4) _).set_ (k * 4 + 1) _).set_ (k * 4 + 2) _).set_ (k * 4 + 3) _
        · exact (((hO.trans (Only.setCell _ _)).trans (Only.setCell _ _)).trans (Only.setCell _ _)).trans (Only.setCell _ _)
      · obtain rfl : k = n := by omega
        go_wp2_with fail
        go_ret
        refine ⟨rfl, ⟨_, c, rfl, by simp [ints, marked], hnc, hc, .inr ⟨hpos, b, o, rfl, rfl, Nat.lt_of_lt_of_le hb hO.size, ?_⟩⟩, hO⟩
        have hd : zs.drop (k * 4) = [] := List.drop_of_length_le (by omega)
        simpa [markPart, ints, hd] using hA
set_option maxHeartbeats 800000 in
theorem heldInstrS (v : Value) (n : Nat) (m : Int) (w : World) (h : Rd w v 4 n (ints (marked (n * 4) m))) (hsz : n ≤ 16777216) (hm0 : 0 ≤ m) (hm : m ≤ 1099511627776) :
    Calls Tryz.prog 73 #[v, .int .i64 m] w fun e w' => e = .returned (.int .i64 (m + n * 4)) ∧ w = w' := by
  obtain ⟨A, c, rfl, hl, hnc, hc, hr⟩ := h
  unfold maxLen at hc
  go_enter Tryz.func73, Tryz.ntmps73
  go_wp2
  go_loop [1, 5] (fun mm i => ∃ k : Nat, k ≤ n ∧ i = .int .i64 k ∧ mm = .int .i64 (m + k * 4)) (fun _ i => n - (intOf i).toNat)
  case atStart => exact ⟨0, Nat.zero_le _, rfl, by simp⟩
  case round =>
    obtain ⟨k, hk, rfl, rfl⟩ := hrel
    by_cases hlt : k < n
    · obtain ⟨b, o, rfl, hb, hcell⟩ := hr (by omega)
      have hx0 := hcell (k * 4) _ (marked_at (by omega))
      have hx1 := hcell (k * 4 + 1) _ (marked_at (by omega))
      have hx2 := hcell (k * 4 + 2) _ (marked_at (by omega))
      have hx3 := hcell (k * 4 + 3) _ (marked_at (by omega))
      rw [show (m + ((k * 4 : Nat) : Int)) = m + k * 4 from by omega] at hx0
      rw [show (m + ((k * 4 + 1 : Nat) : Int)) = m + k * 4 + 1 from by omega] at hx1
      rw [show (m + ((k * 4 + 2 : Nat) : Int)) = m + k * 4 + 1 + 1 from by omega] at hx2
      rw [show (m + ((k * 4 + 3 : Nat) : Int)) = m + k * 4 + 1 + 1 + 1 from by omega] at hx3
      simp only [← Nat.add_assoc] at hx1 hx2 hx3
      have hb1 : ((m + (k : Int) * 4) != (m + (k : Int) * 4)) = false := by simp
      have hb2 : ((m + (k : Int) * 4 + 1) != (m + (k : Int) * 4 + 1)) = false := by simp
      have hb3 : ((m + (k : Int) * 4 + 1 + 1) != (m + (k : Int) * 4 + 1 + 1)) = false := by simp
      have hb4 : ((m + (k : Int) * 4 + 1 + 1 + 1) != (m + (k : Int) * 4 + 1 + 1 + 1)) = false := by simp
      clear hcell hr
      go_wp2_with fail
      exact ⟨⟨k + 1, by omega, by go_num, by go_num⟩, by simp [intOf]; omega⟩
    · obtain rfl : k = n := by omega
      go_wp2_with fail
      go_ret
      exact ⟨rfl, rfl⟩
theorem heldInstrSB (v : Value) (n : Nat) (m : Int) (w : World) (h : Rd w v 4 n (ints (marked (n * 4) m))) (hsz : n ≤ 16777216) (hm0 : 0 ≤ m) (hm : m ≤ 1099511627776) :
    Calls Tryz.prog 73 #[v, .int .i64 m] w fun e w' => e = .returned (.int .i64 (m + n * 4)) ∧ Below w.heap.size w w' := toB (heldInstrS v n m w h hsz hm0 hm)
end Go.Proofs.YtgbgjlmkmlhefaaGreatDoor
