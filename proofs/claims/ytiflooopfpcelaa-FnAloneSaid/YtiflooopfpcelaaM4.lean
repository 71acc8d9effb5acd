/- Contracts of the laws' helpers over threads and machines: size, copy, equality, marks and their look-up. Condition: the size that the law bounds. -/
import Derived.Test.YtiflooopfpcelaaMach
import Derived.Test.YtiflooopfpcelaaM1
namespace Go.Proofs.Ytiflooopfpcelaa
set_option maxRecDepth 20000
set_option linter.unusedSimpArgs false
set_option linter.unusedVariables false
open Go.ChangeShapes Go.WideShapes Go.ChangeAt Go.RowKit
/-- the three cells of an element of a slice that came in -/
theorem th_atA {w wr : World} {ad : Addr} {k : Nat} {ts : List Th} {ps : List (Value × Value)} (hl : ps.length = ts.length) (hc : ∀ j u, (thCs ts ps)[j]? = some u → w.cell? (ad.add j) = some u) (h : k < ts.length) {B : Nat} (hB : Below B w wr) (hb : ad.block < B) :
    ∃ t a b, Hid (ts[k]? = some t) ∧ Hid (ps[k]? = some (a, b)) ∧ wr.cell? (ad.add (k * 3)) = some (.int .i64 t.pc) ∧ wr.cell? ⟨(ad.add (k * 3)).block, (ad.add (k * 3)).off + 1, none⟩ = some a ∧
      wr.cell? ⟨(ad.add (k * 3)).block, (ad.add (k * 3)).off + 2, none⟩ = some b := by
  have hx : ts[k]? = some ts[k] := List.getElem?_eq_getElem h
  have hp : ps[k]? = some ps[k] := List.getElem?_eq_getElem (by omega)
  have hh : ∀ j u, (thCs ts ps)[j]? = some u → wr.cell? (ad.add j) = some u := fun j u hu => (hB.cell (p := ad.add j) (by rw [add_block]; exact hb)).trans (hc j u hu)
  refine ⟨ts[k], ps[k].1, ps[k].2, Lib.hid hx, Lib.hid hp, ?_, ?_, ?_⟩
  · exact hh (k * 3 + 0) _ (thCs_at hx hp 0 (by omega))
  · rw [← add_more ad _ 1 (by omega)]
    exact hh (k * 3 + 1) _ (thCs_at hx hp 1 (by omega))
  · rw [← add_more ad _ 2 (by omega)]
    exact hh (k * 3 + 2) _ (thCs_at hx hp 2 (by omega))
/-- the same of a slice of the call's own -/
theorem th_at {w wr : World} {b o : Nat} {k : Nat} {ts : List Th} {ps : List (Value × Value)} (hl : ps.length = ts.length) (hc : ∀ j u, (thCs ts ps)[j]? = some u → w.cell? ⟨b, o + j, none⟩ = some u) (h : k < ts.length) {B : Nat} (hB : Below B w wr) (hb : b < B) :
    ∃ t a c, Hid (ts[k]? = some t) ∧ Hid (ps[k]? = some (a, c)) ∧ wr.cell? ⟨b, o + k * 3, none⟩ = some (.int .i64 t.pc) ∧ wr.cell? ⟨b, o + k * 3 + 1, none⟩ = some a ∧ wr.cell? ⟨b, o + k * 3 + 2, none⟩ = some c := by
  have hx : ts[k]? = some ts[k] := List.getElem?_eq_getElem h
  have hp : ps[k]? = some ps[k] := List.getElem?_eq_getElem (by omega)
  have hh : ∀ j u, (thCs ts ps)[j]? = some u → wr.cell? ⟨b, o + j, none⟩ = some u := fun j u hu => (hB.cell (p := ⟨b, o + j, none⟩) hb).trans (hc j u hu)
  refine ⟨ts[k], ps[k].1, ps[k].2, Lib.hid hx, Lib.hid hp, ?_, ?_, ?_⟩
  · exact hh (k * 3 + 0) _ (thCs_at hx hp 0 (by omega))
  · exact hh (k * 3 + 1) _ (thCs_at hx hp 1 (by omega))
  · exact hh (k * 3 + 2) _ (thCs_at hx hp 2 (by omega))
set_option maxHeartbeats 400000 in
theorem szThread (t : Th) (a b : Value) (left : Int) (w : World) (ha : RdA w a 1 t.v.length (ints t.v)) (hb : RdA w b 2 t.f.length (flc2 t.f)) (hl0 : -1 ≤ left) (hl : left ≤ 1048576) :
    Calls Try.prog 98 #[.agg #[.int .i64 t.pc, a, b], .int .i64 left] w fun e w' => e = .returned (.int .i64 (szF (totTh t) left)) ∧ Below w.heap.size w w' := by
  obtain ⟨A, c, rfl, -, -, -, -⟩ := id ha
  obtain ⟨B, d, rfl, -, -, -, -⟩ := id hb
  have hB := (Below.refl w.heap.size w).alloc (Nat.le_refl _) (.cells #[.int .i64 t.pc, .slice A t.v.length c, .slice B t.f.length d] 139)
  have HB := Lib.hid hB
  clear hB
  by_cases hx : left - t.v.length < 0
  · have hs : Hid (szF (totTh t) left = -1) := Lib.hid (by unfold szF totTh; rw [if_pos (by omega)])
    have hs1 : Hid (szF t.v.length left = -1) := Lib.hid (by unfold szF; rw [if_pos hx])
    clear hx
    go_enter Try.func98, Try.ntmps98
    go_wp2_with fail
    refine (szIntS _ _ _ left _ (ha.below HB.out) hl0 hl).mono ?_
    rintro e w1 ⟨rfl, rfl⟩
    rw [hs1.out]
    go_wp2_with fail
    go_ret
    exact ⟨ret_int hs.out.symm, HB.out⟩
  · have hs1 : Hid (szF t.v.length left = left - t.v.length) := Lib.hid (by unfold szF; rw [if_neg hx])
    have hx0 : 0 ≤ left - t.v.length := by omega
    by_cases hy : left - t.v.length - t.f.length < 0
    · have hs : Hid (szF (totTh t) left = -1) := Lib.hid (by unfold szF totTh; rw [if_pos (by omega)])
      have hs2 : Hid (szF t.f.length (left - t.v.length) = -1) := Lib.hid (by unfold szF; rw [if_pos hy])
      clear hx hy
      go_enter Try.func98, Try.ntmps98
      go_wp2_with fail
      refine (szIntS _ _ _ left _ (ha.below HB.out) hl0 hl).mono ?_
      rintro e w1 ⟨rfl, rfl⟩
      rw [hs1.out]
      go_wp2_with fail
      refine (szSlotS _ _ _ (left - t.v.length) _ (hb.below HB.out) (by omega) (by omega)).mono ?_
      rintro e w1 ⟨rfl, rfl⟩
      rw [hs2.out]
      go_wp2_with fail
      go_ret
      exact ⟨ret_int hs.out.symm, HB.out⟩
    · have hs : Hid (szF (totTh t) left = left - t.v.length - t.f.length) := Lib.hid (by unfold szF totTh; rw [if_neg (by omega)]; omega)
      have hs2 : Hid (szF t.f.length (left - t.v.length) = left - t.v.length - t.f.length) := Lib.hid (by unfold szF; rw [if_neg hy])
      have hy0 : 0 ≤ left - t.v.length - t.f.length := by omega
      clear hx hy
      go_enter Try.func98, Try.ntmps98
      go_wp2_with fail
      refine (szIntS _ _ _ left _ (ha.below HB.out) hl0 hl).mono ?_
      rintro e w1 ⟨rfl, rfl⟩
      rw [hs1.out]
      go_wp2_with fail
      refine (szSlotS _ _ _ (left - t.v.length) _ (hb.below HB.out) (by omega) (by omega)).mono ?_
      rintro e w1 ⟨rfl, rfl⟩
      rw [hs2.out]
      go_wp2_with fail
      go_ret
      exact ⟨ret_int hs.out.symm, HB.out⟩
set_option maxHeartbeats 800000 in
theorem szThreadS (v : Value) (ths : List Th) (left : Int) (w : World) (h : RdATS w v ths) (hl0 : -1 ≤ left) (hl : left ≤ 1048576) :
    Calls Try.prog 51 #[v, .int .i64 left] w fun e w' => e = .returned (.int .i64 (szF (totTS ths) left)) ∧ Below w.heap.size w w' := by
  obtain ⟨vs, hvl, ⟨A, c, rfl, -, hnc, hc, hr⟩, hin⟩ := h
  unfold maxLen at hc
  by_cases hx : left - ths.length < 0
  · have hs : Hid (szF (totTS ths) left = -1) := Lib.hid (by unfold szF; rw [if_pos (by unfold totTS; omega)])
    go_enter Try.func51, Try.ntmps51
    go_wp2
    go_ret
    exact ⟨ret_int hs.out.symm, Below.refl _ _⟩
  · have hx' : 0 ≤ left - ths.length := by omega
    clear hx
    go_enter Try.func51, Try.ntmps51
    go_wp2
    go_loopw [1, 5] (fun l i wr => ∃ (k : Nat) (m : Int), k ≤ ths.length ∧ i = .int .i64 k ∧ l = .int .i64 m ∧ 0 ≤ m ∧ m ≤ 1048576 ∧ Hid (m = left - ths.length - ((ths.take k).map totTh).sum) ∧ Below w.heap.size w wr) (fun _ i _ => ths.length - (intOf i).toNat)
    case atStart => exact ⟨0, _, Nat.zero_le _, rfl, rfl, hx', by omega, Lib.hid (by simp), Below.refl _ _⟩
    case round =>
      obtain ⟨k, m, hk, rfl, rfl, hm0, hm1, HM, hB⟩ := hrel
      by_cases hlt : k < ths.length
      · obtain ⟨ad, rfl, hb, hcell⟩ := hr (by omega)
        obtain ⟨t, a, b, HX, HP, hx0, hx1, hx2⟩ := th_atA hvl hcell hlt hB hb
        obtain ⟨ra, rb⟩ := hin k t (a, b) HX.out HP.out
        have ht := totTS_take HX.out
        have hsub := totTS_sub ths (k + 1)
        have HT := Lib.hid (And.intro ht hsub)
        clear hcell hr hin HP ht hsub
        have ra' := ra.below hB
        have rb' := rb.below hB
        clear ra rb
        obtain ⟨A1, d1, rfl, -, -, -, -⟩ := id ra'
        obtain ⟨A2, d2, rfl, -, -, -, -⟩ := id rb'
        have HB := Lib.hid hB
        clear hB
        by_cases hneg : m - totTh t < 0
        · have hs : Hid (szF (totTS ths) left = -1) := Lib.hid (by have := HT.out; have := HM.out; unfold szF; rw [if_pos (by omega)])
          have HS1 : Hid (szF (totTh t) m = -1) := Lib.hid (by unfold szF; rw [if_pos hneg])
          clear hneg
          go_wp2_with fail
          refine (szThread t _ _ m _ ra' rb' (by omega) hm1).mono ?_
          rintro e w1 ⟨rfl, hb1⟩
          rw [HS1.out]
          go_wp2_with fail
          go_ret
          exact ⟨ret_int hs.out.symm, HB.out.trans (hb1.mono HB.out.size)⟩
        · have HS1 : Hid (szF (totTh t) m = m - totTh t) := Lib.hid (by unfold szF; rw [if_neg hneg])
          have hge : 0 ≤ m - totTh t := by omega
          clear hneg
          go_wp2_with fail
          refine (szThread t _ _ m _ ra' rb' (by omega) hm1).mono ?_
          rintro e w1 ⟨rfl, hb1⟩
          rw [HS1.out]
          go_wp2_with fail
          exact ⟨⟨k + 1, _, by omega, by go_num, rfl, hge, by omega, Lib.hid (by have := HT.out; have := HM.out; omega), HB.out.trans (hb1.mono HB.out.size)⟩, by simp [intOf]; omega⟩
      · obtain rfl : k = ths.length := by omega
        have hs : Hid (szF (totTS ths) left = m) := Lib.hid (by have := HM.out; rw [List.take_length] at this; unfold szF totTS; rw [if_neg (by omega)]; omega)
        clear hr hin
        go_wp2_with fail
        go_ret
        exact ⟨ret_int hs.out.symm, hB⟩
set_option maxHeartbeats 400000 in
theorem szMachine (mv tv : Value) (M : Ma) (left : Int) (w : World) (h : RdAMa w mv tv M) (hl0 : -1 ≤ left) (hl : left ≤ 1048576) :
    Calls Try.prog 12 #[.agg #[mv, tv], .int .i64 left] w fun e w' => e = .returned (.int .i64 (szF (totMa M) left)) ∧ Below w.heap.size w w' := by
  obtain ⟨A, c, B, d, rfl, rfl⟩ := h.slices
  have hB := (Below.refl w.heap.size w).alloc (Nat.le_refl _) (.cells #[.slice A M.mem.length c, .slice B M.ths.length d] 30)
  have K := Bk.new w #[.slice A M.mem.length c, .slice B M.ths.length d] 30
  have HB := Lib.hid hB
  clear hB
  by_cases hx : left - M.mem.length < 0
  · have hs : Hid (szF (totMa M) left = -1) := Lib.hid (by unfold szF totMa; rw [if_pos (by omega)])
    have hs1 : Hid (szF M.mem.length left = -1) := Lib.hid (by unfold szF; rw [if_pos hx])
    clear hx
    go_enter Try.func12, Try.ntmps12
    go_wp2_with fail
    refine (szMem _ _ _ left _ (h.mem.below HB.out) hl0 hl).mono ?_
    rintro e w1 ⟨rfl, hb1⟩
    rw [hs1.out]
    go_wp2_with fail
    go_ret
    exact ⟨ret_int hs.out.symm, HB.out.trans (hb1.mono HB.out.size)⟩
  · have hs1 : Hid (szF M.mem.length left = left - M.mem.length) := Lib.hid (by unfold szF; rw [if_neg hx])
    have hx0 : 0 ≤ left - M.mem.length := by omega
    by_cases hy : left - M.mem.length - totTS M.ths < 0
    · have hs : Hid (szF (totMa M) left = -1) := Lib.hid (by unfold szF totMa; rw [if_pos (by omega)])
      have hs2 : Hid (szF (totTS M.ths) (left - M.mem.length) = -1) := Lib.hid (by unfold szF; rw [if_pos hy])
      clear hx hy
      go_enter Try.func12, Try.ntmps12
      go_wp2_with fail
      refine (szMem _ _ _ left _ (h.mem.below HB.out) hl0 hl).mono ?_
      rintro e w1 ⟨rfl, hb1⟩
      rw [hs1.out]
      have hB1 := HB.out.trans (hb1.mono HB.out.size)
      have K1 := K.below hb1 K.lt
      obtain ⟨hc0, hf0⟩ := K1.at_ 1 (x := .slice B M.ths.length d) rfl
      have HB1 := Lib.hid hB1
      clear hB1
      go_wp2_with fail
      refine (szThreadS _ _ (left - M.mem.length) _ (h.ths.below HB1.out) (by omega) (by omega)).mono ?_
      rintro e w2 ⟨rfl, hb2⟩
      rw [hs2.out]
      go_wp2_with fail
      go_ret
      exact ⟨ret_int hs.out.symm, HB1.out.trans (hb2.mono HB1.out.size)⟩
    · have hs : Hid (szF (totMa M) left = left - M.mem.length - totTS M.ths) := Lib.hid (by unfold szF totMa; rw [if_neg (by omega)]; omega)
      have hs2 : Hid (szF (totTS M.ths) (left - M.mem.length) = left - M.mem.length - totTS M.ths) := Lib.hid (by unfold szF; rw [if_neg hy])
      have hy0 : 0 ≤ left - M.mem.length - totTS M.ths := by omega
      clear hx hy
      go_enter Try.func12, Try.ntmps12
      go_wp2_with fail
      refine (szMem _ _ _ left _ (h.mem.below HB.out) hl0 hl).mono ?_
      rintro e w1 ⟨rfl, hb1⟩
      rw [hs1.out]
      have hB1 := HB.out.trans (hb1.mono HB.out.size)
      have K1 := K.below hb1 K.lt
      obtain ⟨hc0, hf0⟩ := K1.at_ 1 (x := .slice B M.ths.length d) rfl
      have HB1 := Lib.hid hB1
      clear hB1
      go_wp2_with fail
      refine (szThreadS _ _ (left - M.mem.length) _ (h.ths.below HB1.out) (by omega) (by omega)).mono ?_
      rintro e w2 ⟨rfl, hb2⟩
      rw [hs2.out]
      go_wp2_with fail
      go_ret
      exact ⟨ret_int hs.out.symm, HB1.out.trans (hb2.mono HB1.out.size)⟩
end Go.Proofs.Ytiflooopfpcelaa
