/- Contracts of the draws of buffers (package spec). Conditions: the cursor's bytes can be read; the numbers are small. -/
import Derived.Test.YtiflooopfpcelabDraw
import Derived.Test.YtiflooopfpcelabB1
import Derived.Deep.DeepCutAuto
namespace Go.Proofs.Ytiflooopfpcelab
set_option maxRecDepth 20000
set_option linter.unusedSimpArgs false
set_option linter.unusedVariables false
open Go.ChangeShapes Go.WideShapes Go.ChangeAt Go.RowKit
set_option linter.unusedVariables false
theorem pair_up : ∀ (n : Nat) (zs : List Int), zs.length = n * 2 → ∃ L : List P2, L.length = n ∧ fl2 L = zs
  | 0, zs, h => ⟨[], rfl, by rw [fl2_nil]; exact (List.eq_nil_of_length_eq_zero (by omega)).symm⟩
  | n + 1, zs, h => by
    match zs, h with
    | a :: b :: zs, h =>
      obtain ⟨L, h1, h2⟩ := pair_up n zs (by simp at h; omega)
      exact ⟨⟨a, b⟩ :: L, by simp [h1], by rw [fl2_cons, h2]; rfl⟩
    | [], h => simp at h
    | [a], h => simp at h; omega
theorem owns_store2 {w : World} {base g n cap k : Nat} {t : TypeId} {L : List P2} (h : w.ownsRow base t 2 (.slice (some ⟨g, 0, none⟩) n cap) n (flc2 L)) (u : Int) (hl : L.length = n) :
    ∃ L' : List P2, L'.length = n ∧ (w.setCell ⟨g, k, none⟩ (.int .i64 u)).ownsRow base t 2 (.slice (some ⟨g, 0, none⟩) n cap) n (flc2 L') := by
  obtain ⟨L', h1, h2⟩ := pair_up n ((fl2 L).set k u) (by rw [List.length_set, fl2_len, hl])
  refine ⟨L', h1, ?_⟩
  have := (h.stored k (.int .i64 u)).1
  rw [show (flc2 L).set k (.int .i64 u) = flc2 L' from by rw [flc2, flc2, h2, ints_set]] at this
  exact this
theorem owns_form0 {w : World} {base : Nat} {e : TypeId} {size : Nat} {A : Option Addr} {n m c : Nat} {xs : List Value} (h : w.ownsRow base e size (.slice A m c) n xs) (hn : 0 < n) : ∃ g, A = some ⟨g, 0, none⟩ ∧ base ≤ g := by
  obtain ⟨_, ⟨_, h0⟩ | ⟨g, cap, cur, h1, h2, _⟩⟩ := h
  · omega
  · injection h1 with h1
    exact ⟨g, h1, h2⟩
theorem owns_slice0 {w : World} {base : Nat} {e : TypeId} {size : Nat} {v : Value} {n : Nat} {xs : List Value} (h : w.ownsRow base e size v n xs) : ∃ A c, v = .slice A n c ∧ n ≤ c ∧ c ≤ 9223372036854775807 := by
  obtain ⟨bs, h1, -⟩ := Own.of_owns h
  exact h1.slice
theorem owns_cur {w w2 : World} {base g : Nat} {e : TypeId} {size n : Nat} {v : Value} {xs : List Value} (h : w.ownsRow base e size v n xs) (ho : Only [g] w w2) (hg : g < base) : w2.ownsRow base e size v n xs := owns_only h ho (by simpa using hg)
def DrawnS (lo g : Nat) (w : World) (e : Ending) (w' : World) : Prop :=
  ∃ (v : Value) (L : List P2), e = .returned v ∧ L.length ≤ 4 ∧ w'.ownsRow w.heap.size 109 2 v L.length (flc2 L) ∧ Cur lo w' g ∧ Only [g] w w'
theorem onlyNew {g g2 i : Nat} {w w1 : World} (h : Only [g] w w1) (hg : w.heap.size ≤ g2) (u : Value) : Only [g] w (w1.setCell ⟨g2, i, none⟩ u) :=
  ⟨h.os, h.tape, h.output, by simpa [World.setCell] using h.size, fun k hk hn => (Below.heap_setCell w1 _ u k (by show k ≠ g2; omega)).trans (h.block k hk hn)⟩
set_option maxHeartbeats 3200000 in
theorem l03DrawBuf (g : Nat) (cells : Int) (w : World) {lo : Nat} (h : Cur lo w g) (hc0 : 0 ≤ cells ∧ cells ≤ 100) :
    Calls Try.prog 109 #[.pointer (some ⟨g, 0, none⟩), .int .i64 cells] w (DrawnS lo g w) := by
  have hg := h.lt
  obtain ⟨i, hi, hiz0, hiz1, hiz2⟩ := info_parts infoSlot
  have hO0 : (w.alloc (.cells #[] 109)).ownsRow w.heap.size 109 2 (.slice (some ⟨w.heap.size, 0, none⟩) 0 0) 0 (flc2 []) := World.ownsRow_lit w #[] 0 (Nat.le_refl _) (by simp [maxLen]) rfl
  have hcu0 := h.below ((Below.refl _ _).alloc (Nat.le_refl _) (.cells #[] 109))
  have ho0 := (Only.refl [g] w).alloc (.cells #[] 109)
  go_enter Try.func109, Try.ntmps109
  go_wp2_with fail
  refine (l01Below g 4 _ hcu0 (WalkArith.wf_i64 (by omega))).mono ?_
  rintro e w1 ⟨x, ⟨x0, x1⟩, rfl, hcu1, ho1⟩
  have x2 : x < 4 := by omega
  obtain ⟨x, rfl⟩ := Int.eq_ofNat_of_zero_le x0
  have hO1 := owns_cur hO0 ho1 hg
  have hot1 := ho0.trans ho1
  clear x1 hO0 hcu0 ho0 ho1
  go_wp2_with fail
  refine (l01Once g 20 _ hcu1 (WalkArith.wf_i64 (by omega))).mono ?_
  rintro e w2 ⟨b2, rfl, hcu2, ho2⟩
  have hO2 := owns_cur hO1 ho2 hg
  have hot2 := hot1.trans ho2
  clear hO1 hcu1 ho2
  go_upto_if 13 with (fail)
  go_cut [6] (fun n wx => ∃ N : Nat, N ≤ 4 ∧ n = .int .i64 N ∧ wx.ownsRow w.heap.size 109 2 (.slice (some ⟨w.heap.size, 0, none⟩) 0 0) 0 (flc2 []) ∧ Cur lo wx g ∧ Only [g] w wx)
  case first =>
    cases b2
    · go_wp2_with fail
      go_meet
      exact ⟨x, by omega, rfl, hO2, hcu2, hot2⟩
    · go_wp2_with fail
      go_meet
      exact ⟨4, by omega, rfl, hO2, hcu2, hot2⟩
  case rest =>
    clear hO2 hcu2 hot2
    obtain ⟨N, hN, rfl, hO0, hcu0, ho0⟩ := hcut
    go_wp2_with fail
    go_loopw [5, 7] (fun vo j wr => ∃ (k : Nat) (L : List P2), k ≤ N ∧ j = .int .i64 k ∧ L.length ≤ k ∧ Hid (L.length = k) ∧ wr.ownsRow w.heap.size 109 2 vo L.length (flc2 L) ∧ Cur lo wr g ∧ Only [g] w wr) (fun _ j _ => N - (intOf j).toNat)
    case atStart => exact ⟨0, [], Nat.zero_le _, rfl, Nat.le_refl _, Lib.hid rfl, hO0, hcu0, ho0⟩
    case round =>
      obtain ⟨k, L, hk, rfl, hL, HL, hO, hcu, ho⟩ := hrel
      clear hO0 hcu0 ho0
      obtain ⟨AO, cO, rfl, hcO, hcOm⟩ := owns_slice0 hO
      by_cases hlt : k < N
      · go_wp2_with fail
        refine (l01Below g cells _ hcu (WalkArith.wf_i64 (by omega))).mono ?_
        rintro e w1 ⟨x, hx, rfl, hcu1, ho1⟩
        have hO1 := owns_cur hO ho1 hg
        have hot1 := ho.trans ho1
        clear hO hcu ho ho1 hx
        go_wp2_with fail
        refine (l01DrawValue g _ hcu1).mono ?_
        rintro e w2 ⟨y, hy, rfl, hcu2, ho2⟩
        have hO2 := owns_cur hO1 ho2 hg
        have hot2 := hot1.trans ho2
        have hsz := hot2.size
        have hBt : Below w.heap.size w2 w2 := Below.refl _ _
        clear hO1 hcu1 hot1 ho2 hy
        go_wp2_with (at_builtin; refine wpList_append_own _ rfl _ _ 56 rfl (w.heap.size) 109 i (.agg #[.int .i64 0, .int .i64 0]) 2 16 Try.underlying56 hi hiz0 hiz1 hiz2 rfl (by decide) _ _ _ rfl (hO2.alloc _) ⟨w2.heap.size, 0, none⟩ 1 1 [.int .i64 x, .int .i64 y] rfl rfl (new_cells _ _ _) (by simp [Value.oneCell']) (by unfold maxLen; omega) (by omega) (by have := hsz; simp; omega) ?_)
        intro vo3 w3 ho6 hg6 _
        have hB6 := (hBt.alloc hsz _).grown hg6 (by have := hsz; simp; omega) (fun k hk => by have := (hO2.lt k hk).1; omega)
        have hO6 := owns_snoc2 (x := ⟨x, y⟩) ho6
        go_wp2_with fail
        exact ⟨⟨k + 1, L ++ [⟨x, y⟩], by omega, by go_num, by simp; omega, Lib.hid (by simp [HL.out]), hO6, hcu2.belowB hB6 hg, hot2.thenBelow hB6 (Nat.le_refl _)⟩, by simp [intOf]; omega⟩
      · have hkN : L.length = N := by have := HL.out; omega
        have HK := Lib.hid hkN
        have hkk : N ≤ k ∧ k ≤ N := by omega
        clear hkN
        go_wp2_with fail
        refine (l01Once g 20 _ hcu (WalkArith.wf_i64 (by omega))).mono ?_
        rintro e w1 ⟨b1, rfl, hcu1, ho1⟩
        have hO1 := owns_cur hO ho1 hg
        have hot1 := ho.trans ho1
        have hL4 : L.length ≤ 4 := by omega
        have HE := Lib.hid (And.intro hO1 (And.intro hcu1 hot1))
        clear hO hcu ho ho1
        cases b1
        · go_wp2_with fail
          go_ret
          exact ⟨_, L, rfl, hL4, HE.out.1, HE.out.2.1, HE.out.2.2⟩
        · by_cases hN0 : (0 : Int) < N
          · have hLN : L.length = N := HK.out
            obtain ⟨g2, rfl, hg2⟩ := owns_form0 hO1 (by omega)
            rw [hLN] at hO1 hcO hL4 ⊢
            have HLN := Lib.hid hLN
            clear hLN hO1 hot1
            go_wp2_with fail
            refine (l01Below g N _ hcu1 (WalkArith.wf_i64 (by omega))).mono ?_
            rintro e w3 ⟨q, ⟨q0, q1⟩, rfl, hcu3, ho3⟩
            have q2 : q < N := by omega
            obtain ⟨q, rfl⟩ := Int.eq_ofNat_of_zero_le q0
            clear q1
            have hqN : q < N := by omega
            have hO3 := owns_cur (HE.out.1) ho3 hg
            have hot3 := HE.out.2.2.trans ho3
            rw [HLN.out] at hO3
            have hqL : q < L.length := by have := HLN.out; omega
            obtain ⟨x, hx⟩ : ∃ x, L[q]? = some x := ⟨L[q], List.getElem?_eq_getElem hqL⟩
            clear hqL hcu1
            go_wp2_with fail
            refine (l01Once g 2 _ hcu3 (WalkArith.wf_i64 (by omega))).mono ?_
            rintro e w4 ⟨b4, rfl, hcu4, ho4⟩
            have hO4 := owns_cur hO3 ho4 hg
            have hot4 := hot3.trans ho4
            clear hO3 hcu3 ho3 hot3 ho4
            cases b4
            · have hcu5 := hcu4.below ((Below.refl _ _).alloc (Nat.le_refl _) (.cells #[.int .i64 1000001, .int .i64 (-1000001)] 3))
              have hot5 := hot4.alloc (.cells #[.int .i64 1000001, .int .i64 (-1000001)] 3)
              have hO5 := hO4.alloc (.cells #[.int .i64 1000001, .int .i64 (-1000001)] 3)
              have HP : Hid (Rd (w4.alloc (.cells #[.int .i64 1000001, .int .i64 (-1000001)] 3)) (.slice (some ⟨w4.heap.size, 0, none⟩) 2 2) 1 2 (ints [1000001, -1000001])) := Lib.hid (by exact rd_lit w4 [1000001, -1000001] 3 (by simp))
              have hg4 : g < w4.heap.size := by have := hot4.size; omega
              clear hcu4 hot4 hO4
              go_wp2_with fail
              refine (l01PickInt g _ [1000001, -1000001] _ hcu5 HP.out (by simp) (by intro A n c he ad ha; injection he with e1; subst e1; injection ha with ha; subst ha; simp; omega)).mono ?_
              rintro e w6 ⟨z, hz, rfl, hcu6, ho6⟩
              have hO6 := owns_cur hO5 ho6 hg
              have hot6 := hot5.trans ho6
              have hcA := fun j (hj : j < 2) => (hO6.cellAt (q * 2 + j) (by omega)).trans (flc2_at hx j hj)
              have hc0 := hcA 1 (by omega)
              have hf0 := hO6.frozenAt (q * 2 + 1)
              try rw [Nat.add_zero] at hc0 hf0
              obtain ⟨L', hl', hO7⟩ := owns_store2 (k := q * 2 + 1) hO6 z HLN.out
              try rw [Nat.add_zero] at hO7
              have hcu7 : Cur lo (w6.setCell ⟨g2, q * 2 + 1, none⟩ (.int .i64 z)) g := hcu6.only (Only.setCell w6 _) (by simp; omega)
              have hot7 : Only [g] w (w6.setCell ⟨g2, q * 2 + 1, none⟩ (.int .i64 z)) := onlyNew hot6 hg2 _
              try rw [Nat.add_zero] at hcu7 hot7
              have hqN : q < N := by omega
              have HE7 := Lib.hid (And.intro hO7 (And.intro hcu7 hot7))
              clear hz hcA hO5 hO6 hcu5 hcu6 hot5 hot6 hO7 hcu7 hot7 ho6
              go_wp2_with fail
              go_ret
              exact ⟨_, L', rfl, by omega, by rw [hl']; exact HE7.out.1, HE7.out.2.1, HE7.out.2.2⟩
            · have hcu5 := hcu4.below ((Below.refl _ _).alloc (Nat.le_refl _) (.cells #[.int .i64 (-1), .int .i64 15, .int .i64 16] 3))
              have hot5 := hot4.alloc (.cells #[.int .i64 (-1), .int .i64 15, .int .i64 16] 3)
              have hO5 := hO4.alloc (.cells #[.int .i64 (-1), .int .i64 15, .int .i64 16] 3)
              have HP : Hid (Rd (w4.alloc (.cells #[.int .i64 (-1), .int .i64 15, .int .i64 16] 3)) (.slice (some ⟨w4.heap.size, 0, none⟩) 3 3) 1 3 (ints [-1, 15, 16])) := Lib.hid (by exact rd_lit w4 [-1, 15, 16] 3 (by simp))
              have hg4 : g < w4.heap.size := by have := hot4.size; omega
              clear hcu4 hot4 hO4
              go_wp2_with fail
              refine (l01PickInt g _ [-1, 15, 16] _ hcu5 HP.out (by simp) (by intro A n c he ad ha; injection he with e1; subst e1; injection ha with ha; subst ha; simp; omega)).mono ?_
              rintro e w6 ⟨z, hz, rfl, hcu6, ho6⟩
              have hO6 := owns_cur hO5 ho6 hg
              have hot6 := hot5.trans ho6
              have hcA := fun j (hj : j < 2) => (hO6.cellAt (q * 2 + j) (by omega)).trans (flc2_at hx j hj)
              have hc0 := hcA 0 (by omega)
              have hf0 := hO6.frozenAt (q * 2 + 0)
              try rw [Nat.add_zero] at hc0 hf0
              obtain ⟨L', hl', hO7⟩ := owns_store2 (k := q * 2 + 0) hO6 z HLN.out
              try rw [Nat.add_zero] at hO7
              have hcu7 : Cur lo (w6.setCell ⟨g2, q * 2 + 0, none⟩ (.int .i64 z)) g := hcu6.only (Only.setCell w6 _) (by simp; omega)
              have hot7 : Only [g] w (w6.setCell ⟨g2, q * 2 + 0, none⟩ (.int .i64 z)) := onlyNew hot6 hg2 _
              try rw [Nat.add_zero] at hcu7 hot7
              have hqN : q < N := by omega
              have HE7 := Lib.hid (And.intro hO7 (And.intro hcu7 hot7))
              clear hz hcA hO5 hO6 hcu5 hcu6 hot5 hot6 hO7 hcu7 hot7 ho6
              go_wp2_with fail
              go_ret
              exact ⟨_, L', rfl, by omega, by rw [hl']; exact HE7.out.1, HE7.out.2.1, HE7.out.2.2⟩
          · go_wp2_with fail
            go_ret
            exact ⟨_, L, rfl, hL4, HE.out.1, HE.out.2.1, HE.out.2.2⟩
end Go.Proofs.Ytiflooopfpcelab
