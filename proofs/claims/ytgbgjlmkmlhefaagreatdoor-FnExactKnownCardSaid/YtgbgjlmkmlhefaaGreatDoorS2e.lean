/- Contract of spec.WithFences: fences behind stores, targets moved. Condition: the code can be read. -/
import Derived.Test.YtgbgjlmkmlhefaaGreatDoorA3
import Derived.Test.YtgbgjlmkmlhefaaGreatDoorS2c
namespace Go.Proofs.YtgbgjlmkmlhefaaGreatDoor
set_option maxRecDepth 20000
set_option linter.unusedSimpArgs false
set_option linter.unusedVariables false
open Go.ChangeShapes Go.WideShapes Go.ChangeAt Go.RowKit
set_option linter.unusedVariables false
def RetCodeB (L : List Ins) (ok : Bool) (w : World) (e : Ending) (w' : World) : Prop :=
  ∃ v' bs, e = .returned (.tuple #[v', .bool ok]) ∧ Own w' v' 4 L.length (flc L) bs ∧ (∀ b ∈ bs, w.heap.size ≤ b) ∧ Below w.heap.size w w'
theorem owns_newCells (w : World) (t : TypeId) (s : Nat) : (w.alloc (.cells #[] t)).ownsRow w.heap.size t s (.slice (some ⟨w.heap.size, 0, none⟩) 0 0) 0 [] :=
  ⟨by simp, .inr ⟨w.heap.size, 0, #[], rfl, Nat.le_refl _, heap_alloc_new w _, Nat.le_refl _, by simp [maxLen], by simp, by simp⟩⟩
theorem owns_snocI {w : World} {base : Nat} {t : TypeId} {v : Value} {N : List Ins} {x : Ins} (h : w.ownsRow base t 4 v (N.length + 1) (flc N ++ [.int .i64 x.o, .int .i64 x.r, .int .i64 x.s, .int .i64 x.n])) : w.ownsRow base t 4 v (N ++ [x]).length (flc (N ++ [x])) := by
  rw [flc_append, flc_one]
  simpa [insC] using h
theorem owns_formS {w : World} {base : Nat} {e : TypeId} {size : Nat} {A : Option Addr} {n m c : Nat} {xs : List Value} (h : w.ownsRow base e size (.slice A m c) n xs) (hn : 0 < n) : ∃ g, A = some ⟨g, 0, none⟩ := by
  obtain ⟨_, ⟨_, h0⟩ | ⟨g, cap, cur, h1, _⟩⟩ := h
  · omega
  · injection h1 with h1
    exact ⟨g, h1⟩
set_option maxHeartbeats 6400000 in
theorem spec_WithFences (v : Value) (xs : List Ins) (w : World) (h : Rd w v 4 xs.length (flc xs)) :
    Calls Tryz.prog 11 #[v] w (RetCodeB ((wfF xs).getD []) (wfF xs).isSome w) := by
  obtain ⟨A, c, rfl, -, hnc, hc, hr⟩ := h
  unfold maxLen at hc
  obtain ⟨i, hi, hiz0, hiz1, hiz2⟩ := info_parts infoInt
  obtain ⟨s, hs, hsz0, hsz1, hsz2⟩ := info_parts infoIns
  have hO0 := owns_newCells w 37 4
  have hB0 := (Below.refl w.heap.size w).alloc (Nat.le_refl _) (.cells #[] 37)
  by_cases hlen : xs.length ≤ 16
  · have hM0 := owns_newCells (w.alloc (.cells #[] 37)) 3 1
    simp only [World.size_alloc] at hM0
    have hB1 := hB0.alloc hB0.size (.cells #[] 3)
    go_enter Tryz.func11, Tryz.ntmps11
    go_wp2_with fail
    go_loopw [4, 5, 6] (fun vo vm j wr => ∃ (k : Nat) (L : List Ins) (M : List Int), k ≤ xs.length ∧ j = .int .i64 k ∧ L.length ≤ 2 * k ∧ Hid (M.length = k) ∧ Hid (L = fenAt xs k ∧ M = movAt xs k) ∧ Hid ((xs.take k).all (tgtB xs.length) = true) ∧
      wr.ownsRow w.heap.size 37 4 vo L.length (flc L) ∧ wr.ownsRow w.heap.size 3 1 vm M.length (ints M) ∧ Below w.heap.size w wr) (fun _ _ j _ => xs.length - (intOf j).toNat)
    case atStart => exact ⟨0, [], [], Nat.zero_le _, rfl, Nat.le_refl _, Lib.hid rfl, Lib.hid ⟨rfl, rfl⟩, Lib.hid (by simp), hO0.alloc _, owns_mono hM0 (by omega), hB1⟩
    case round =>
      obtain ⟨k, L, M, hk, rfl, hL, HM, HL, HT, hO, hM, hB⟩ := hrel
      clear hO0 hB0 hM0 hB1
      have hMk : M.length ≤ k := by have := HM.out; omega
      obtain ⟨AO, cO, rfl, hcO, hcOm⟩ := owns_slice hO
      by_cases hlt : k < xs.length
      · obtain ⟨b, o, rfl, hb, hcell⟩ := hr (by omega)
        obtain ⟨x, hxk, hx0, hx1, hx2, hx3⟩ := ins_at (fun j u hu => (hB.cell (p := ⟨b, o + j, none⟩) hb).trans (hcell j u hu)) hlt
        have HS := Lib.hid (fenAt_snoc hxk.out)
        have HMS := Lib.hid (movAt_snoc xs k)
        obtain ⟨xo, xr, xsS, xn⟩ := x
        have hbad : (xo = 6 ∧ inB xn 0 xs.length = false) ∨ tgtB xs.length ⟨xo, xr, xsS, xn⟩ = true := by
          unfold tgtB
          by_cases h6 : xo = 6
          · cases hin : inB xn 0 xs.length <;> simp [h6]
          · exact .inr (by simp [h6])
        rcases hbad with ⟨rfl, hin⟩ | hgood
        · have HN : Hid (wfF xs = none) := Lib.hid (by
            have := allN_false (p := tgtB xs.length) hxk.out (by simp [tgtB, hin])
            simp [wfF, tgtOk, this])
          have hxin := hcell
          clear hcell hr
          go_wp2_with (go_at_call 26; refine (l01In _ _ _ _).mono ?_; rintro e w' ⟨rfl, rfl⟩)
          exact bodyPost_ret (v := .tuple #[.slice none 0 0, .bool false]) (by simp [results, Tryz.results11, go_sem]) rfl ⟨_, [], by rw [HN.out]; rfl, by rw [HN.out]; exact Own.nil _ _, by simp, hB⟩
        · have HT' := Lib.hid (allN_snoc HT.out hxk.out hgood)
          have HX : Hid (∀ W : World, Below w.heap.size w W → Ins4 W b (o + k * 4) ⟨xo, xr, xsS, xn⟩) := Lib.hid fun W hW => by
            obtain ⟨x', hx', h4⟩ := ins_at (fun j u hu => (hW.cell (p := ⟨b, o + j, none⟩) hb).trans (hcell j u hu)) hlt
            have e := hxk.out.symm.trans hx'.out
            injection e with e
            subst e
            exact h4
          have HY : Hid (∀ W : World, Below w.heap.size w W → ∀ y, xs[k + 1]? = some y → Ins4 W b (o + (k + 1) * 4) y) := Lib.hid fun W hW y hy => by
            obtain ⟨x', hx', h4⟩ := ins_at (fun j u hu => (hW.cell (p := ⟨b, o + j, none⟩) hb).trans (hcell j u hu)) (List.getElem?_eq_some_iff.1 hy).1
            have e := hy.symm.trans hx'.out
            injection e with e
            subst e
            exact h4
          clear hcell hr hx0 hx1 hx2 hx3
          have hcase : (xo = 6 ∧ inB xn 0 xs.length = true ∧ lacksB xs k = false) ∨ (xo = 3 ∧ k + 1 = xs.length ∧ lacksB xs k = true) ∨ (xo = 3 ∧ ∃ y, xs[k + 1]? = some y ∧ (y.o != 4) = lacksB xs k) ∨ (xo ≠ 6 ∧ xo ≠ 3 ∧ lacksB xs k = false) := by
            unfold tgtB at hgood
            unfold lacksB
            rw [hxk.out]
            by_cases h6 : xo = 6
            · exact .inl ⟨h6, by simpa [h6] using hgood, by simp [h6]⟩
            · by_cases h3 : xo = 3
              · cases hn : xs[k + 1]? with
                | none => exact .inr (.inl ⟨h3, by have := List.getElem?_eq_none_iff.1 hn; omega, by simp [h3]⟩)
                | some y => exact .inr (.inr (.inl ⟨h3, y, rfl, by simp [h3]⟩))
              · exact .inr (.inr (.inr ⟨h6, h3, by simp [h3]⟩))
          clear hgood
          rcases hcase with ⟨rfl, hin, hlk⟩ | ⟨rfl, hk1, hlk⟩ | ⟨rfl, y, hyk, hlk⟩ | ⟨h6, h3, hlk⟩
          · have HLK := Lib.hid hlk
            clear hlk
            have hL2 : L.length ≤ 32 := by omega
            obtain ⟨hx0, hx1, hx2, hx3⟩ := HX.out _ hB
            go_wp2_with fail
            refine (l01In _ _ _ _).mono ?_
            rintro e w' ⟨rfl, rfl⟩
            go_wp2_with (at_builtin; refine wpList_append_own _ rfl _ _ 58 rfl (w.heap.size) 3 i (.int .i64 0) 1 8 Tryz.underlying58 hi hiz0 hiz1 hiz2 rfl (by decide) _ _ _ rfl (hM.alloc _) ⟨wr.heap.size, 0, none⟩ 1 1 [.int .i64 L.length] rfl rfl (new_cells _ _ _) (by simp [Value.oneCell']) (by unfold maxLen; omega) (by omega) (by have := hB.size; simp; omega) ?_)
            intro vm1 w1 hm1 hg1 _
            have hB2 := (hB.alloc hB.size _).grown hg1 (by have := hB.size; simp; omega) (fun k hk => by have := (hM.lt k hk).1; omega)
            have hO1 := (hO.alloc (.cells #[.int .i64 L.length] 3)).kept hg1 (own_ne (hO.alloc (.cells #[.int .i64 L.length] 3)) (hM.alloc (.cells #[.int .i64 L.length] 3)) (by decide))
            have hm2 := owns_snoc hm1
            clear hx0 hx1 hx2 hx3
            obtain ⟨hx0, hx1, hx2, hx3⟩ := HX.out _ hB2
            clear hm1
            go_wp2_with (at_builtin; refine wpList_append_own _ rfl _ _ 31 rfl (w.heap.size) 37 s (.agg #[.int .i64 0, .int .i64 0, .int .i64 0, .int .i64 0]) 4 32 Tryz.underlying31 hs hsz0 hsz1 hsz2 rfl (by decide) _ _ _ rfl (hO1.alloc _) ⟨w1.heap.size, 0, none⟩ 1 1 [.int .i64 6, .int .i64 xr, .int .i64 xsS, .int .i64 xn] rfl rfl (new_cells _ _ _) (by simp [Value.oneCell']) (by unfold maxLen; omega) (by omega) (by have := hB2.size; simp; omega) ?_)
            intro vo1 w2 ho1 hg2 _
            have hB3 := (hB2.alloc hB2.size _).grown hg2 (by have := hB2.size; simp; omega) (fun k hk => by have := (hO1.lt k hk).1; omega)
            have ho2 := owns_snocI (x := ⟨6, xr, xsS, xn⟩) ho1
            have hm3 := (hm2.alloc (.cells #[.int .i64 6, .int .i64 xr, .int .i64 xsS, .int .i64 xn] 37)).kept hg2 (own_ne (hm2.alloc (.cells #[.int .i64 6, .int .i64 xr, .int .i64 xsS, .int .i64 xn] 37)) (hO1.alloc (.cells #[.int .i64 6, .int .i64 xr, .int .i64 xsS, .int .i64 xn] 37)) (by decide))
            clear hx0 hx1 hx2 hx3 ho1
            obtain ⟨hx0, hx1, hx2, hx3⟩ := HX.out _ hB3
            clear hx0 hx1 hx2 hx3
            obtain ⟨hx0, -, -, -⟩ := HX.out _ hB3
            go_wp2_with fail
            exact ⟨⟨k + 1, L ++ [⟨6, xr, xsS, xn⟩], M ++ [(L.length : Int)], by omega, by go_num, by simp; omega, Lib.hid (by have := HM.out; simp [this]), Lib.hid ⟨by rw [HS.out, HLK.out, HL.out.1]; simp, by rw [HMS.out, HL.out.1, HL.out.2]⟩, HT', ho2, hm3, hB3⟩, by simp [intOf]; omega⟩
          · have HLK := Lib.hid hlk
            have hk2 : ((k : Int) + 1 == (xs.length : Int)) = true := by simp; omega
            clear hlk hk1
            have hL2 : L.length ≤ 32 := by omega
            obtain ⟨hx0, hx1, hx2, hx3⟩ := HX.out _ hB
            go_wp2_with (at_builtin; refine wpList_append_own _ rfl _ _ 58 rfl (w.heap.size) 3 i (.int .i64 0) 1 8 Tryz.underlying58 hi hiz0 hiz1 hiz2 rfl (by decide) _ _ _ rfl (hM.alloc _) ⟨wr.heap.size, 0, none⟩ 1 1 [.int .i64 L.length] rfl rfl (new_cells _ _ _) (by simp [Value.oneCell']) (by unfold maxLen; omega) (by omega) (by have := hB.size; simp; omega) ?_)
            intro vm1 w1 hm1 hg1 _
            have hB2 := (hB.alloc hB.size _).grown hg1 (by have := hB.size; simp; omega) (fun k hk => by have := (hM.lt k hk).1; omega)
            have hO1 := (hO.alloc (.cells #[.int .i64 L.length] 3)).kept hg1 (own_ne (hO.alloc (.cells #[.int .i64 L.length] 3)) (hM.alloc (.cells #[.int .i64 L.length] 3)) (by decide))
            have hm2 := owns_snoc hm1
            clear hx0 hx1 hx2 hx3
            obtain ⟨hx0, hx1, hx2, hx3⟩ := HX.out _ hB2
            clear hm1
            go_wp2_with (at_builtin; refine wpList_append_own _ rfl _ _ 31 rfl (w.heap.size) 37 s (.agg #[.int .i64 0, .int .i64 0, .int .i64 0, .int .i64 0]) 4 32 Tryz.underlying31 hs hsz0 hsz1 hsz2 rfl (by decide) _ _ _ rfl (hO1.alloc _) ⟨w1.heap.size, 0, none⟩ 1 1 [.int .i64 3, .int .i64 xr, .int .i64 xsS, .int .i64 xn] rfl rfl (new_cells _ _ _) (by simp [Value.oneCell']) (by unfold maxLen; omega) (by omega) (by have := hB2.size; simp; omega) ?_)
            intro vo1 w2 ho1 hg2 _
            have hB3 := (hB2.alloc hB2.size _).grown hg2 (by have := hB2.size; simp; omega) (fun k hk => by have := (hO1.lt k hk).1; omega)
            have ho2 := owns_snocI (x := ⟨3, xr, xsS, xn⟩) ho1
            have hm3 := (hm2.alloc (.cells #[.int .i64 3, .int .i64 xr, .int .i64 xsS, .int .i64 xn] 37)).kept hg2 (own_ne (hm2.alloc (.cells #[.int .i64 3, .int .i64 xr, .int .i64 xsS, .int .i64 xn] 37)) (hO1.alloc (.cells #[.int .i64 3, .int .i64 xr, .int .i64 xsS, .int .i64 xn] 37)) (by decide))
            clear hx0 hx1 hx2 hx3 ho1
            obtain ⟨hx0, hx1, hx2, hx3⟩ := HX.out _ hB3
            have hl3 : (L ++ [(⟨3, xr, xsS, xn⟩ : Ins)]).length ≤ 2 * k + 1 := by simp; omega
            obtain ⟨L1, hL1⟩ : ∃ L1, L ++ [(⟨3, xr, xsS, xn⟩ : Ins)] = L1 := ⟨_, rfl⟩
            rw [hL1] at ho2 hl3
            have HL1 := Lib.hid hL1
            clear hL1
            go_wp2_with (at_builtin; refine wpList_append_own _ rfl _ _ 31 rfl (w.heap.size) 37 s (.agg #[.int .i64 0, .int .i64 0, .int .i64 0, .int .i64 0]) 4 32 Tryz.underlying31 hs hsz0 hsz1 hsz2 rfl (by decide) _ _ _ rfl (ho2.alloc _) ⟨w2.heap.size, 0, none⟩ 1 1 [.int .i64 4, .int .i64 0, .int .i64 0, .int .i64 0] rfl rfl (new_cells _ _ _) (by simp [Value.oneCell']) (by unfold maxLen; omega) (by omega) (by have := hB3.size; simp; omega) ?_)
            intro vo2 w3 ho3 hg3 _
            have hB4 := (hB3.alloc hB3.size _).grown hg3 (by have := hB3.size; simp; omega) (fun k hk => by have := (ho2.lt k hk).1; omega)
            have ho4 := owns_snocI (x := fenceI) ho3
            have hm4 := (hm3.alloc (.cells #[.int .i64 4, .int .i64 0, .int .i64 0, .int .i64 0] 37)).kept hg3 (own_ne (hm3.alloc (.cells #[.int .i64 4, .int .i64 0, .int .i64 0, .int .i64 0] 37)) (ho2.alloc (.cells #[.int .i64 4, .int .i64 0, .int .i64 0, .int .i64 0] 37)) (by decide))
            go_wp2_with fail
            exact ⟨⟨k + 1, L1 ++ [fenceI], M ++ [(L.length : Int)], by omega, by go_num, by simp; omega, Lib.hid (by have := HM.out; simp [this]), Lib.hid ⟨by rw [HS.out, HLK.out, ← HL1.out, HL.out.1]; rfl, by rw [HMS.out, HL.out.1, HL.out.2]⟩, HT', ho4, hm4, hB4⟩, by simp [intOf]; omega⟩
          · have hk3 : k + 1 < xs.length := (List.getElem?_eq_some_iff.1 hyk).1
            have hk2 : ((k : Int) + 1 == (xs.length : Int)) = false := by simp; omega
            have HYK := Lib.hid hyk
            clear hyk
            cases hy4 : (y.o != 4)
            · rw [hy4] at hlk
              have HLK := Lib.hid hlk.symm
              clear hlk
              have hL2 : L.length ≤ 32 := by omega
              obtain ⟨hx0, hx1, hx2, hx3⟩ := HX.out _ hB
              go_wp2_with (at_builtin; refine wpList_append_own _ rfl _ _ 58 rfl (w.heap.size) 3 i (.int .i64 0) 1 8 Tryz.underlying58 hi hiz0 hiz1 hiz2 rfl (by decide) _ _ _ rfl (hM.alloc _) ⟨wr.heap.size, 0, none⟩ 1 1 [.int .i64 L.length] rfl rfl (new_cells _ _ _) (by simp [Value.oneCell']) (by unfold maxLen; omega) (by omega) (by have := hB.size; simp; omega) ?_)
              intro vm1 w1 hm1 hg1 _
              have hB2 := (hB.alloc hB.size _).grown hg1 (by have := hB.size; simp; omega) (fun k hk => by have := (hM.lt k hk).1; omega)
              have hO1 := (hO.alloc (.cells #[.int .i64 L.length] 3)).kept hg1 (own_ne (hO.alloc (.cells #[.int .i64 L.length] 3)) (hM.alloc (.cells #[.int .i64 L.length] 3)) (by decide))
              have hm2 := owns_snoc hm1
              clear hx0 hx1 hx2 hx3
              obtain ⟨hx0, hx1, hx2, hx3⟩ := HX.out _ hB2
              clear hm1
              go_wp2_with (at_builtin; refine wpList_append_own _ rfl _ _ 31 rfl (w.heap.size) 37 s (.agg #[.int .i64 0, .int .i64 0, .int .i64 0, .int .i64 0]) 4 32 Tryz.underlying31 hs hsz0 hsz1 hsz2 rfl (by decide) _ _ _ rfl (hO1.alloc _) ⟨w1.heap.size, 0, none⟩ 1 1 [.int .i64 3, .int .i64 xr, .int .i64 xsS, .int .i64 xn] rfl rfl (new_cells _ _ _) (by simp [Value.oneCell']) (by unfold maxLen; omega) (by omega) (by have := hB2.size; simp; omega) ?_)
              intro vo1 w2 ho1 hg2 _
              have hB3 := (hB2.alloc hB2.size _).grown hg2 (by have := hB2.size; simp; omega) (fun k hk => by have := (hO1.lt k hk).1; omega)
              have ho2 := owns_snocI (x := ⟨3, xr, xsS, xn⟩) ho1
              have hm3 := (hm2.alloc (.cells #[.int .i64 3, .int .i64 xr, .int .i64 xsS, .int .i64 xn] 37)).kept hg2 (own_ne (hm2.alloc (.cells #[.int .i64 3, .int .i64 xr, .int .i64 xsS, .int .i64 xn] 37)) (hO1.alloc (.cells #[.int .i64 3, .int .i64 xr, .int .i64 xsS, .int .i64 xn] 37)) (by decide))
              clear hx0 hx1 hx2 hx3 ho1
              obtain ⟨hx0, hx1, hx2, hx3⟩ := HX.out _ hB3
              obtain ⟨hy0, -, -, -⟩ := HY.out _ hB3 _ HYK.out
              rw [show o + (k + 1) * 4 = o + (k + 1) * 4 from rfl] at hy0
              go_wp2_with fail
              exact ⟨⟨k + 1, L ++ [⟨3, xr, xsS, xn⟩], M ++ [(L.length : Int)], by omega, by go_num, by simp; omega, Lib.hid (by have := HM.out; simp [this]), Lib.hid ⟨by rw [HS.out, HLK.out, HL.out.1]; simp, by rw [HMS.out, HL.out.1, HL.out.2]⟩, HT', ho2, hm3, hB3⟩, by simp [intOf]; omega⟩
            · rw [hy4] at hlk
              have HLK := Lib.hid hlk.symm
              clear hlk
              have hL2 : L.length ≤ 32 := by omega
              obtain ⟨hx0, hx1, hx2, hx3⟩ := HX.out _ hB
              go_wp2_with (at_builtin; refine wpList_append_own _ rfl _ _ 58 rfl (w.heap.size) 3 i (.int .i64 0) 1 8 Tryz.underlying58 hi hiz0 hiz1 hiz2 rfl (by decide) _ _ _ rfl (hM.alloc _) ⟨wr.heap.size, 0, none⟩ 1 1 [.int .i64 L.length] rfl rfl (new_cells _ _ _) (by simp [Value.oneCell']) (by unfold maxLen; omega) (by omega) (by have := hB.size; simp; omega) ?_)
              intro vm1 w1 hm1 hg1 _
              have hB2 := (hB.alloc hB.size _).grown hg1 (by have := hB.size; simp; omega) (fun k hk => by have := (hM.lt k hk).1; omega)
              have hO1 := (hO.alloc (.cells #[.int .i64 L.length] 3)).kept hg1 (own_ne (hO.alloc (.cells #[.int .i64 L.length] 3)) (hM.alloc (.cells #[.int .i64 L.length] 3)) (by decide))
              have hm2 := owns_snoc hm1
              clear hx0 hx1 hx2 hx3
              obtain ⟨hx0, hx1, hx2, hx3⟩ := HX.out _ hB2
              clear hm1
              go_wp2_with (at_builtin; refine wpList_append_own _ rfl _ _ 31 rfl (w.heap.size) 37 s (.agg #[.int .i64 0, .int .i64 0, .int .i64 0, .int .i64 0]) 4 32 Tryz.underlying31 hs hsz0 hsz1 hsz2 rfl (by decide) _ _ _ rfl (hO1.alloc _) ⟨w1.heap.size, 0, none⟩ 1 1 [.int .i64 3, .int .i64 xr, .int .i64 xsS, .int .i64 xn] rfl rfl (new_cells _ _ _) (by simp [Value.oneCell']) (by unfold maxLen; omega) (by omega) (by have := hB2.size; simp; omega) ?_)
              intro vo1 w2 ho1 hg2 _
              have hB3 := (hB2.alloc hB2.size _).grown hg2 (by have := hB2.size; simp; omega) (fun k hk => by have := (hO1.lt k hk).1; omega)
              have ho2 := owns_snocI (x := ⟨3, xr, xsS, xn⟩) ho1
              have hm3 := (hm2.alloc (.cells #[.int .i64 3, .int .i64 xr, .int .i64 xsS, .int .i64 xn] 37)).kept hg2 (own_ne (hm2.alloc (.cells #[.int .i64 3, .int .i64 xr, .int .i64 xsS, .int .i64 xn] 37)) (hO1.alloc (.cells #[.int .i64 3, .int .i64 xr, .int .i64 xsS, .int .i64 xn] 37)) (by decide))
              clear hx0 hx1 hx2 hx3 ho1
              obtain ⟨hx0, hx1, hx2, hx3⟩ := HX.out _ hB3
              obtain ⟨hy0, -, -, -⟩ := HY.out _ hB3 _ HYK.out
              have hl3 : (L ++ [(⟨3, xr, xsS, xn⟩ : Ins)]).length ≤ 2 * k + 1 := by simp; omega
              obtain ⟨L1, hL1⟩ : ∃ L1, L ++ [(⟨3, xr, xsS, xn⟩ : Ins)] = L1 := ⟨_, rfl⟩
              rw [hL1] at ho2 hl3
              have HL1 := Lib.hid hL1
              clear hL1
              go_wp2_with (at_builtin; refine wpList_append_own _ rfl _ _ 31 rfl (w.heap.size) 37 s (.agg #[.int .i64 0, .int .i64 0, .int .i64 0, .int .i64 0]) 4 32 Tryz.underlying31 hs hsz0 hsz1 hsz2 rfl (by decide) _ _ _ rfl (ho2.alloc _) ⟨w2.heap.size, 0, none⟩ 1 1 [.int .i64 4, .int .i64 0, .int .i64 0, .int .i64 0] rfl rfl (new_cells _ _ _) (by simp [Value.oneCell']) (by unfold maxLen; omega) (by omega) (by have := hB3.size; simp; omega) ?_)
              intro vo2 w3 ho3 hg3 _
              have hB4 := (hB3.alloc hB3.size _).grown hg3 (by have := hB3.size; simp; omega) (fun k hk => by have := (ho2.lt k hk).1; omega)
              have ho4 := owns_snocI (x := fenceI) ho3
              have hm4 := (hm3.alloc (.cells #[.int .i64 4, .int .i64 0, .int .i64 0, .int .i64 0] 37)).kept hg3 (own_ne (hm3.alloc (.cells #[.int .i64 4, .int .i64 0, .int .i64 0, .int .i64 0] 37)) (ho2.alloc (.cells #[.int .i64 4, .int .i64 0, .int .i64 0, .int .i64 0] 37)) (by decide))
              go_wp2_with fail
              exact ⟨⟨k + 1, L1 ++ [fenceI], M ++ [(L.length : Int)], by omega, by go_num, by simp; omega, Lib.hid (by have := HM.out; simp [this]), Lib.hid ⟨by rw [HS.out, HLK.out, ← HL1.out, HL.out.1]; rfl, by rw [HMS.out, HL.out.1, HL.out.2]⟩, HT', ho4, hm4, hB4⟩, by simp [intOf]; omega⟩
          · have HLK := Lib.hid hlk
            have hq6 : (xo == 6) = false := by simp [h6]
            have hq3 : (xo == 3) = false := by simp [h3]
            clear hlk h6 h3
            have hL2 : L.length ≤ 32 := by omega
            obtain ⟨hx0, hx1, hx2, hx3⟩ := HX.out _ hB
            go_wp2_with (at_builtin; refine wpList_append_own _ rfl _ _ 58 rfl (w.heap.size) 3 i (.int .i64 0) 1 8 Tryz.underlying58 hi hiz0 hiz1 hiz2 rfl (by decide) _ _ _ rfl (hM.alloc _) ⟨wr.heap.size, 0, none⟩ 1 1 [.int .i64 L.length] rfl rfl (new_cells _ _ _) (by simp [Value.oneCell']) (by unfold maxLen; omega) (by omega) (by have := hB.size; simp; omega) ?_)
            intro vm1 w1 hm1 hg1 _
            have hB2 := (hB.alloc hB.size _).grown hg1 (by have := hB.size; simp; omega) (fun k hk => by have := (hM.lt k hk).1; omega)
            have hO1 := (hO.alloc (.cells #[.int .i64 L.length] 3)).kept hg1 (own_ne (hO.alloc (.cells #[.int .i64 L.length] 3)) (hM.alloc (.cells #[.int .i64 L.length] 3)) (by decide))
            have hm2 := owns_snoc hm1
            clear hx0 hx1 hx2 hx3
            obtain ⟨hx0, hx1, hx2, hx3⟩ := HX.out _ hB2
            clear hm1
            go_wp2_with (at_builtin; refine wpList_append_own _ rfl _ _ 31 rfl (w.heap.size) 37 s (.agg #[.int .i64 0, .int .i64 0, .int .i64 0, .int .i64 0]) 4 32 Tryz.underlying31 hs hsz0 hsz1 hsz2 rfl (by decide) _ _ _ rfl (hO1.alloc _) ⟨w1.heap.size, 0, none⟩ 1 1 [.int .i64 xo, .int .i64 xr, .int .i64 xsS, .int .i64 xn] rfl rfl (new_cells _ _ _) (by simp [Value.oneCell']) (by unfold maxLen; omega) (by omega) (by have := hB2.size; simp; omega) ?_)
            intro vo1 w2 ho1 hg2 _
            have hB3 := (hB2.alloc hB2.size _).grown hg2 (by have := hB2.size; simp; omega) (fun k hk => by have := (hO1.lt k hk).1; omega)
            have ho2 := owns_snocI (x := ⟨xo, xr, xsS, xn⟩) ho1
            have hm3 := (hm2.alloc (.cells #[.int .i64 xo, .int .i64 xr, .int .i64 xsS, .int .i64 xn] 37)).kept hg2 (own_ne (hm2.alloc (.cells #[.int .i64 xo, .int .i64 xr, .int .i64 xsS, .int .i64 xn] 37)) (hO1.alloc (.cells #[.int .i64 xo, .int .i64 xr, .int .i64 xsS, .int .i64 xn] 37)) (by decide))
            clear hx0 hx1 hx2 hx3 ho1
            obtain ⟨hx0, hx1, hx2, hx3⟩ := HX.out _ hB3
            go_wp2_with fail
            exact ⟨⟨k + 1, L ++ [⟨xo, xr, xsS, xn⟩], M ++ [(L.length : Int)], by omega, by go_num, by simp; omega, Lib.hid (by have := HM.out; simp [this]), Lib.hid ⟨by rw [HS.out, HLK.out, HL.out.1]; simp, by rw [HMS.out, HL.out.1, HL.out.2]⟩, HT', ho2, hm3, hB3⟩, by simp [intOf]; omega⟩
      · obtain rfl : k = xs.length := by omega
        have hT := HT.out
        rw [List.take_length] at hT
        have HT := Lib.hid hT
        have hMs := movAt_snoc xs xs.length
        have hL2 : L.length ≤ 32 := by omega
        clear hT hr
        go_wp2_with (at_builtin; refine wpList_append_own _ rfl _ _ 58 rfl (w.heap.size) 3 i (.int .i64 0) 1 8 Tryz.underlying58 hi hiz0 hiz1 hiz2 rfl (by decide) _ _ _ rfl (hM.alloc _) ⟨wr.heap.size, 0, none⟩ 1 1 [.int .i64 L.length] rfl rfl (new_cells _ _ _) (by simp [Value.oneCell']) (by unfold maxLen; omega) (by omega) (by have := hB.size; simp; omega) ?_)
        intro vm1 w1 hm1 hg1 _
        have hB2 := (hB.alloc hB.size _).grown hg1 (by have := hB.size; simp; omega) (fun k hk => by have := (hM.lt k hk).1; omega)
        have hO1 := (hO.alloc (.cells #[.int .i64 L.length] 3)).kept hg1 (own_ne (hO.alloc (.cells #[.int .i64 L.length] 3)) (hM.alloc (.cells #[.int .i64 L.length] 3)) (by decide))
        have hm2 := owns_snoc hm1
        have hML : (M ++ [(L.length : Int)]).length = xs.length + 1 := by have := HM.out; simp [this]
        have hMI : (M ++ [(L.length : Int)]).length ≤ xs.length + 1 ∧ xs.length + 1 ≤ (M ++ [(L.length : Int)]).length := by omega
        obtain ⟨M1, hM1⟩ : ∃ M1, M ++ [(L.length : Int)] = M1 := ⟨_, rfl⟩
        rw [hM1] at hm2 hMI
        have HM1 : Hid (M1 = movAt xs (xs.length + 1)) := Lib.hid (by rw [← hM1, hMs, HL.out.1, HL.out.2])
        obtain ⟨AM, cM, rfl, hcM, hcMm⟩ := owns_slice hm2
        clear hML hM1 hm1 hMs
        by_cases hbig : L.length ≤ 16
        · have HF : Hid (wfF xs = some (L.map (retI M1))) := Lib.hid (by
            unfold wfF
            rw [HL.out.1] at hbig ⊢
            rw [if_pos ⟨hlen, HT.out, hbig⟩, HM1.out])
          go_wp2_with fail
          go_loopw [7] (fun j ws => ∃ m : Nat, m ≤ L.length ∧ j = .int .i64 m ∧ ws.ownsRow w.heap.size 37 4 (.slice AO L.length cO) L.length (flc (retAt M1 L m)) ∧ ws.ownsRow w.heap.size 3 1 (.slice AM M1.length cM) M1.length (ints M1) ∧ Below w.heap.size w ws) (fun j _ => L.length - (intOf j).toNat)
          case atStart => exact ⟨0, Nat.zero_le _, rfl, by rw [retAt_zero]; exact hO1, hm2, hB2⟩
          case round =>
            obtain ⟨m, hm, rfl, hOr, hMr, hBr⟩ := hrel
            clear hO hM hO1 hm2
            by_cases hml : m < L.length
            · obtain ⟨g, rfl⟩ := owns_formS hOr (by omega)
              obtain ⟨x, hxm⟩ : ∃ x, L[m]? = some x := ⟨_, List.getElem?_eq_getElem hml⟩
              have hq := retAt_at (M := M1) hxm
              have hx0 : wr.cell? ⟨g, m * 4, none⟩ = some (.int .i64 x.o) := (hOr.cellAt (m * 4) (by omega)).trans (flc_at hq 0 (by omega))
              have hx3 : wr.cell? ⟨g, m * 4 + 3, none⟩ = some (.int .i64 x.n) := (hOr.cellAt (m * 4 + 3) (by omega)).trans (flc_at hq 3 (by omega))
              have hfz := hOr.frozenAt (m * 4 + 3)
              have HXM := Lib.hid hxm
              clear hxm hq
              by_cases h6 : x.o = 6
              · obtain ⟨xo, xr, xsS, xn⟩ := x
                simp only at h6
                subst h6
                obtain ⟨hn0, hn1⟩ := fenAt_tgt HT.out (k := xs.length) (i := ⟨6, xr, xsS, xn⟩) (by rw [← HL.out.1]; exact List.mem_of_getElem? HXM.out) rfl
                simp only at hx0 hx3 hn0 hn1
                obtain ⟨g2, rfl⟩ := owns_formS hMr (by omega)
                obtain ⟨y, hy⟩ : ∃ y, M1[xn.toNat]? = some y := ⟨_, List.getElem?_eq_getElem (by omega)⟩
                have hyc : wr.cell? ⟨g2, xn.toNat, none⟩ = some (.int .i64 y) := (hMr.cellAt xn.toNat (by omega)).trans (by simp [ints, hy])
                have hst := hOr.stored (m * 4 + 3) (.int .i64 y)
                have HR := Lib.hid (retAt_snoc (M := M1) HXM.out)
                have HQ := Lib.hid (retAt_at (M := M1) HXM.out)
                have HRI : Hid (retI M1 ⟨6, xr, xsS, xn⟩ = ⟨6, xr, xsS, y⟩) := Lib.hid (by simp [retI, hy])
                have hb1 : xn < (M1.length : Int) := by omega
                have HY := Lib.hid hy
                clear hy
                have hO3 : (wr.setCell ⟨g, m * 4 + 3, none⟩ (.int .i64 y)).ownsRow w.heap.size 37 4 (.slice (some ⟨g, 0, none⟩) L.length cO) L.length (flc (retAt M1 L (m + 1))) := by
                  rw [HR.out, HRI.out, ← flc_set HQ.out]
                  exact hst.1
                have hM3 := hMr.kept hst.2 (own_ne hMr hOr (by decide))
                have hB3 := hBr.setCell (p := ⟨g, m * 4 + 3, none⟩) (hOr.lt g rfl).1 (.int .i64 y)
                clear hst
                go_wp2_with fail
                exact ⟨⟨m + 1, by omega, by go_num, hO3, hM3, hB3⟩, by simp [intOf]; omega⟩
              · have hq6 : (x.o == 6) = false := by simp [h6]
                have HR := Lib.hid (retAt_keep (M := M1) HXM.out h6)
                clear h6
                go_wp2_with fail
                exact ⟨⟨m + 1, by omega, by go_num, by rw [HR.out]; exact hOr, hMr, hBr⟩, by simp [intOf]; omega⟩
            · obtain rfl : m = L.length := by omega
              rw [retAt_all] at hOr
              obtain ⟨bs, h1, h2⟩ := Own.of_owns hOr
              go_wp2_with fail
              exact bodyPost_ret (v := .tuple #[.slice AO L.length cO, .bool true]) (by simp [results, Tryz.results11, go_sem]) rfl ⟨_, bs, by rw [HF.out]; rfl, by rw [HF.out]; simpa using h1, h2, hBr⟩
        · have HF : Hid (wfF xs = none) := Lib.hid (by
            unfold wfF
            rw [HL.out.1] at hbig
            rw [if_neg (fun h => hbig h.2.2)])
          clear hO hM
          go_wp2_with fail
          exact bodyPost_ret (v := .tuple #[.slice none 0 0, .bool false]) (by simp [results, Tryz.results11, go_sem]) rfl ⟨_, [], by rw [HF.out]; rfl, by rw [HF.out]; exact Own.nil _ _, by simp, hB2⟩
  · have HF : Hid (wfF xs = none) := Lib.hid (by simp [wfF, hlen])
    clear hr
    go_enter Tryz.func11, Tryz.ntmps11
    go_wp2_with fail
    exact bodyPost_ret (v := .tuple #[.slice none 0 0, .bool false]) (by simp [results, Tryz.results11, go_sem]) rfl ⟨_, [], by rw [HF.out]; rfl, by rw [HF.out]; exact Own.nil _ _, by simp, Below.refl _ _⟩
end Go.Proofs.YtgbgjlmkmlhefaaGreatDoor
