/- Contract of the draw of a play on a heap (spec.DrawPlayHeap). Condition: the bytes can be read, at most 1048576. -/
import Derived.Test.YtpenneklpolhgaaDoorDraw
import Derived.Test.YtpenneklpolhgaaDoorTwo
import Derived.Test.YtpenneklpolhgaaDoorB1
namespace Go.Proofs.YtpenneklpolhgaaDoor
set_option maxRecDepth 20000
set_option linter.unusedSimpArgs false
set_option linter.unusedVariables false
open Go.ChangeShapes Go.WideShapes Go.ChangeAt Go.RowKit
set_option linter.unusedVariables false
set_option maxHeartbeats 400000 in
theorem l01Size40 (A : Option Addr) (n c : Nat) (w : World) (hnc : n ≤ c) (hc : c ≤ 9223372036854775807) (hn : n ≤ 1048576) :
    Calls Tryd.prog 52 #[.slice A n c, .int .i64 40] w fun e w' => ∃ k : Nat, e = .returned (.int .i64 k) ∧ 1 ≤ k ∧ k ≤ 40 ∧ w = w' := by
  have hq : (n : Int).tdiv 16 = ((n / 16 : Nat) : Int) := by rw [Int.tdiv_eq_ediv_of_nonneg (by omega)]; omega
  by_cases h : (40 : Int) < 2 + (n : Int) / 16
  · go_enter Tryd.func52, Tryd.ntmps52
    go_wp2_with fail
    go_ret
    exact ⟨40, rfl, by omega, by omega, rfl⟩
  · go_enter Tryd.func52, Tryd.ntmps52
    go_wp2_with fail
    go_ret
    exact ⟨2 + n / 16, ret_int (by omega), by omega, by omega, rfl⟩
theorem infoOp : (Tryd.prog.info? 57).map (fun i => (i.zero, i.size, i.bytes)) = some (some (.agg #[.int .i64 0, .int .i64 0]), 2, 16) := by kernel_rfl
theorem owns_curH {w w2 : World} {base g : Nat} {e : TypeId} {size n : Nat} {v : Value} {xs : List Value} (h : w.ownsRow base e size v n xs) (ho : Only [g] w w2) (hg : g < base) : w2.ownsRow base e size v n xs := by
  obtain ⟨hl, ⟨rfl, rfl⟩ | ⟨q, cap, cur, rfl, h1, hq, h2⟩⟩ := h
  · exact ⟨hl, .inl ⟨rfl, rfl⟩⟩
  · exact ⟨hl, .inr ⟨q, cap, cur, rfl, h1, (ho.block q (Array.getElem?_eq_some_iff.1 hq).1 (by simp; omega)).trans hq, h2⟩⟩
/-- a drawn number, drawn operations of the call's own -/
def RetOps (w : World) (e : Ending) (w' : World) : Prop :=
  ∃ (n : Int) (v : Value) (L : List P2), e = .returned (.tuple #[.int .i64 n, v]) ∧ (0 ≤ n ∧ n ≤ 25) ∧ L.length ≤ 301 ∧ w'.ownsRow w.heap.size 57 2 v L.length (flc2 L) ∧ Below w.heap.size w w'
set_option maxHeartbeats 3200000 in
theorem DrawPlayHeap (A : Option Addr) (n c : Nat) (w : World) (h : Byt w A n) (hnc : n ≤ c) (hc : c ≤ 9223372036854775807) (hn : n ≤ 1048576) :
    Calls Tryd.prog 24 #[.slice A n c] w (RetOps w) := by
  obtain ⟨i, hi, hiz0, hiz1, hiz2⟩ := info_parts infoOp
  go_enter Tryd.func24, Tryd.ntmps24
  go_wp2_with fail
  refine (l01New A n c w.heap.size _ h (fun ad ha hn0 => by obtain ⟨ad', e1, e2, _⟩ := h hn0; rw [ha] at e1; injection e1 with e1; subst e1; exact e2) hnc hc hn).mono ?_
  rintro e w1 ⟨g, rfl, hc1, hg1, hb1⟩
  have hg := hc1.lt
  have hO0 : (w1.alloc (.cells #[] 57)).ownsRow w1.heap.size 57 2 (.slice (some ⟨w1.heap.size, 0, none⟩) 0 0) 0 (flc2 []) := World.ownsRow_lit w1 #[] 0 (Nat.le_refl _) (by simp [maxLen]) rfl
  have hcu0 := hc1.below ((Below.refl _ _).alloc (Nat.le_refl _) (.cells #[] 57))
  have ho0 := (Only.refl [g] w1).alloc (.cells #[] 57)
  go_wp2_with (go_at_call 52; refine (l01Size40 A n c _ hnc hc hn).mono ?_; rintro e w2 ⟨ks, rfl, hks1, hks2, rfl⟩)
  refine (l01Below g ks _ hcu0 (WalkArith.wf_i64 (by omega))).mono ?_
  rintro e w3 ⟨x, ⟨x0, x1⟩, rfl, hcu3, ho3⟩
  have x2 : x < 40 := by omega
  obtain ⟨x, rfl⟩ := Int.eq_ofNat_of_zero_le x0
  have hO3 := owns_curH hO0 ho3 hg
  have hot3 := ho0.trans ho3
  clear x1 hO0 hcu0 ho0 ho3
  go_wp2_with fail
  refine (l01Once g 40 _ hcu3 (WalkArith.wf_i64 (by omega))).mono ?_
  rintro e w4 ⟨b4, rfl, hcu4, ho4⟩
  have hO4 := owns_curH hO3 ho4 hg
  have hot4 := hot3.trans ho4
  clear hO3 hcu3 ho4
  go_upto_if 16 with (fail)
  go_cut [6] (fun n6 wx => ∃ N : Nat, N ≤ 301 ∧ n6 = .int .i64 N ∧ wx.ownsRow w1.heap.size 57 2 (.slice (some ⟨w1.heap.size, 0, none⟩) 0 0) 0 (flc2 []) ∧ Cur w.heap.size wx g ∧ Only [g] w1 wx)
  case first =>
    cases b4
    · go_wp2_with fail
      go_meet
      exact ⟨x, by omega, rfl, hO4, hcu4, hot4⟩
    · go_wp2_with fail
      refine (l01Below g 2 _ hcu4 (WalkArith.wf_i64 (by omega))).mono ?_
      rintro e w5 ⟨y, ⟨y0, y1⟩, rfl, hcu5, ho5⟩
      have y2 : y < 2 := by omega
      obtain ⟨y, rfl⟩ := Int.eq_ofNat_of_zero_le y0
      have hO5 := owns_curH hO4 ho5 hg
      have hot5 := hot4.trans ho5
      clear y1 hO4 hcu4 ho5
      go_wp2_with fail
      go_meet
      exact ⟨300 + y, by omega, by simp, hO5, hcu5, hot5⟩
  case rest =>
    clear hO4 hcu4 hot4
    obtain ⟨N, hN, rfl, hO0, hcu0, ho0⟩ := hcut
    go_wp2_with fail
    go_loopw [5, 7] (fun vo j wr => ∃ (k : Nat) (L : List P2), k ≤ N ∧ j = .int .i64 k ∧ L.length ≤ k ∧ wr.ownsRow w1.heap.size 57 2 vo L.length (flc2 L) ∧ Cur w.heap.size wr g ∧ Only [g] w1 wr) (fun _ j _ => N - (intOf j).toNat)
    case atStart => exact ⟨0, [], Nat.zero_le _, rfl, Nat.le_refl _, hO0, hcu0, ho0⟩
    case round =>
      obtain ⟨k, L, hk, rfl, hL, hO, hcu, ho⟩ := hrel
      clear hO0 hcu0 ho0
      obtain ⟨AO, cO, rfl⟩ := owns_form hO
      by_cases hlt : k < N
      · have hkk : ((k : Int).tdiv 2) = ((k / 2 : Nat) : Int) := by rw [Int.tdiv_eq_ediv_of_nonneg (by omega)]; omega
        have hc6 := hcu.below ((Below.refl _ _).alloc (Nat.le_refl _) (.cells #[.int .i64 0, .int .i64 0, .int .i64 1, .int .i64 1, .int .i64 2, .int .i64 2, .int .i64 3] 3))
        have hO6 := hO.alloc (.cells #[.int .i64 0, .int .i64 0, .int .i64 1, .int .i64 1, .int .i64 2, .int .i64 2, .int .i64 3] 3)
        have ho6 := ho.alloc (.cells #[.int .i64 0, .int .i64 0, .int .i64 1, .int .i64 1, .int .i64 2, .int .i64 2, .int .i64 3] 3)
        have HP : Hid (Rd (wr.alloc (.cells #[.int .i64 0, .int .i64 0, .int .i64 1, .int .i64 1, .int .i64 2, .int .i64 2, .int .i64 3] 3)) (.slice (some ⟨wr.heap.size, 0, none⟩) 7 7) 1 7 (ints [0, 0, 1, 1, 2, 2, 3])) := Lib.hid (by exact rd_lit wr [0, 0, 1, 1, 2, 2, 3] 3 (by simp))
        have hgr : g < wr.heap.size := hcu.lt
        clear hO hcu ho
        go_wp2_with fail
        refine (l01PickInt g _ [0, 0, 1, 1, 2, 2, 3] _ hc6 HP.out (by simp) (by intro A n c he ad ha; injection he with e1; subst e1; injection ha with ha; subst ha; simp; omega)).mono ?_
        rintro e w6 ⟨z, hz, rfl, hcu6, hon6⟩
        have hO7 := owns_curH hO6 hon6 hg
        have ho7 := ho6.trans hon6
        clear hz hO6 ho6 hc6 HP hon6
        go_wp2_with fail
        refine (l01Below g _ _ hcu6 (WalkArith.wf_i64 (by omega))).mono ?_
        rintro e w7 ⟨y, ⟨y0, y1⟩, rfl, hcu7, hon7⟩
        have hy : 0 ≤ y ∧ y ≤ 400 := by omega
        have hO8 := owns_curH hO7 hon7 hg
        have ho8 := ho7.trans hon7
        have hc8 := hcu7.below ((Below.refl _ _).alloc (Nat.le_refl _) (.cells #[.int .i64 0, .int .i64 0, .int .i64 0, .int .i64 0, .int .i64 1] 3))
        have hO9 := hO8.alloc (.cells #[.int .i64 0, .int .i64 0, .int .i64 0, .int .i64 0, .int .i64 1] 3)
        have ho9 := ho8.alloc (.cells #[.int .i64 0, .int .i64 0, .int .i64 0, .int .i64 0, .int .i64 1] 3)
        have HP : Hid (Rd (w7.alloc (.cells #[.int .i64 0, .int .i64 0, .int .i64 0, .int .i64 0, .int .i64 1] 3)) (.slice (some ⟨w7.heap.size, 0, none⟩) 5 5) 1 5 (ints [0, 0, 0, 0, 1])) := Lib.hid (by exact rd_lit w7 [0, 0, 0, 0, 1] 3 (by simp))
        have hg7 : g < w7.heap.size := hcu7.lt
        clear y0 y1 hO7 ho7 hcu6 hon7 hO8 ho8 hcu7
        go_wp2_with fail
        refine (l01PickInt g _ [0, 0, 0, 0, 1] _ hc8 HP.out (by simp) (by intro A n c he ad ha; injection he with e1; subst e1; injection ha with ha; subst ha; simp; omega)).mono ?_
        rintro e w8 ⟨q, hq, rfl, hcu8, hon8⟩
        have hq1 : 0 ≤ q ∧ q ≤ 1 := by simp at hq; omega
        have hO10 := owns_curH hO9 hon8 hg
        have ho10 := ho9.trans hon8
        have hsz := ho10.size
        have hBt : Below w1.heap.size w8 w8 := Below.refl _ _
        clear hq hO9 ho9 hc8 HP hon8
        go_wp2_with (at_builtin; refine wpList_append_own _ rfl _ _ 42 rfl (w1.heap.size) 57 i (.agg #[.int .i64 0, .int .i64 0]) 2 16 Tryd.underlying42 hi hiz0 hiz1 hiz2 rfl (by decide) _ _ _ rfl (hO10.alloc _) ⟨w8.heap.size, 0, none⟩ 1 1 [.int .i64 z, .int .i64 (y - q)] rfl rfl (new_cells _ _ _) (by simp [Value.oneCell']) (by unfold maxLen; omega) (by omega) (by have := hsz; simp; omega) ?_)
        intro vo3 w9 ho11 hg11 _
        have hB11 := (hBt.alloc hsz _).grown hg11 (by have := hsz; simp; omega) (fun k hk => by have := (hO10.lt k hk).1; omega)
        have hO12 := owns_snoc2 (x := ⟨z, y - q⟩) ho11
        clear hg11 ho11
        go_wp2_with fail
        exact ⟨⟨k + 1, L ++ [⟨z, y - q⟩], by omega, by go_num, by simp; omega, hO12, hcu8.belowB hB11 hg, ho10.thenBelow hB11 (Nat.le_refl _)⟩, by simp [intOf]; omega⟩
      · have hc6 := hcu.below ((Below.refl _ _).alloc (Nat.le_refl _) (.cells #[.int .i64 1, .int .i64 2, .int .i64 3, .int .i64 5, .int .i64 24, .int .i64 0, .int .i64 25] 3))
        have hO6 := hO.alloc (.cells #[.int .i64 1, .int .i64 2, .int .i64 3, .int .i64 5, .int .i64 24, .int .i64 0, .int .i64 25] 3)
        have ho6 := ho.alloc (.cells #[.int .i64 1, .int .i64 2, .int .i64 3, .int .i64 5, .int .i64 24, .int .i64 0, .int .i64 25] 3)
        have HP : Hid (Rd (wr.alloc (.cells #[.int .i64 1, .int .i64 2, .int .i64 3, .int .i64 5, .int .i64 24, .int .i64 0, .int .i64 25] 3)) (.slice (some ⟨wr.heap.size, 0, none⟩) 7 7) 1 7 (ints [1, 2, 3, 5, 24, 0, 25])) := Lib.hid (by exact rd_lit wr [1, 2, 3, 5, 24, 0, 25] 3 (by simp))
        have hgr : g < wr.heap.size := hcu.lt
        clear hO hcu ho
        go_wp2_with fail
        refine (l01PickInt g _ [1, 2, 3, 5, 24, 0, 25] _ hc6 HP.out (by simp) (by intro A n c he ad ha; injection he with e1; subst e1; injection ha with ha; subst ha; simp; omega)).mono ?_
        rintro e w6 ⟨z, hz, rfl, hcu6, hon6⟩
        have hO7 := owns_curH hO6 hon6 hg
        have ho7 := ho6.trans hon6
        have hz1 : 0 ≤ z ∧ z ≤ 25 := by simp at hz; omega
        have HE := Lib.hid hO7
        have HB := Lib.hid (hb1.trans (ho7.below (B := w.heap.size) hb1.size (by simp; omega)))
        clear hz hO6 ho6 hc6 HP hon6 hO7 ho7
        go_wp2_with fail
        refine bodyPost_ret (v := .tuple #[.int .i64 z, .slice AO L.length cO]) (by simp [results, Tryd.results24, go_sem]) rfl ⟨z, _, L, rfl, hz1, by omega, ?_, HB.out⟩
        obtain ⟨hl, h0 | ⟨q, cap, cur, h1, h2, h3⟩⟩ := HE.out
        · exact ⟨hl, .inl h0⟩
        · exact ⟨hl, .inr ⟨q, cap, cur, h1, by have := hb1.size; omega, h3⟩⟩
end Go.Proofs.YtpenneklpolhgaaDoor
