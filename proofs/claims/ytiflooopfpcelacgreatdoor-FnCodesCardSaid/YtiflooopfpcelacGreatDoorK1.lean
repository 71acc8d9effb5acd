import Derived.Test.YtiflooopfpcelacGreatDoorS2e
import Derived.Test.YtiflooopfpcelacGreatDoorA2
import Derived.Deep.DeepCutAuto
import Derived.Test.YtiflooopfpcelacGreatDoorS4
/- Contracts of impl.WithFences and its helpers: fences behind stores, targets moved. Condition: the code can be read. -/
namespace Go.Proofs.YtiflooopfpcelacGreatDoor
set_option maxRecDepth 20000
set_option linter.unusedSimpArgs false
set_option linter.unusedVariables false
open Go.ChangeShapes Go.WideShapes Go.ChangeAt Go.RowKit
set_option linter.unusedVariables false
set_option maxHeartbeats 1600000 in
theorem impl_targetsOk (v : Value) (xs : List Ins) (w : World) (h : Rd w v 4 xs.length (flc xs)) :
    Calls Tryz.prog 32 #[v] w fun e w' => e = .returned (.bool (tgtOk xs)) ∧ Below w.heap.size w w' := by
  obtain ⟨A, c, rfl, -, hnc, hc, hr⟩ := h
  unfold maxLen at hc
  go_enter Tryz.func32, Tryz.ntmps32
  go_wp2_with fail
  go_loopw [7] (fun j wr => ∃ k : Nat, k ≤ xs.length ∧ j = .int .i64 k ∧ Hid ((xs.take k).all (tgtB xs.length) = true) ∧ Below w.heap.size w wr) (fun j _ => xs.length - (intOf j).toNat)
  case atStart => exact ⟨0, Nat.zero_le _, rfl, Lib.hid (by simp), Below.refl _ _⟩
  case round =>
    obtain ⟨k, hk, rfl, HT, hB⟩ := hrel
    by_cases hlt : k < xs.length
    · obtain ⟨b, o, rfl, hb, hcell⟩ := hr (by omega)
      obtain ⟨x, hxk, hx0, hx1, hx2, hx3⟩ := ins_at (fun j u hu => (hB.cell (p := ⟨b, o + j, none⟩) hb).trans (hcell j u hu)) hlt
      obtain ⟨xo, xr, xsS, xn⟩ := x
      simp only at hx0 hx1 hx2 hx3
      have k1 := Bk.new wr #[.int .i64 xo, .int .i64 xr, .int .i64 xsS, .int .i64 xn] 37
      have hBa := hB.alloc hB.size (.cells #[.int .i64 xo, .int .i64 xr, .int .i64 xsS, .int .i64 xn] 37)
      have hcase : (xo = 6 ∧ 0 ≤ xn ∧ xn ≤ xs.length) ∨ (xo = 6 ∧ 0 ≤ xn ∧ xs.length < xn) ∨ (xo = 6 ∧ xn < 0) ∨ xo ≠ 6 := by omega
      have htb : tgtB xs.length ⟨xo, xr, xsS, xn⟩ = (!(xo == 6) || inB xn 0 xs.length) := rfl
      clear hcell hr
      rcases hcase with ⟨rfl, h0, h1⟩ | ⟨rfl, h0, h1⟩ | ⟨rfl, h0⟩ | h6
      · have HT' := Lib.hid (allN_snoc HT.out hxk.out (by rw [htb]; simp [inB, h0, h1]))
        clear htb
        go_wp2_with fail
        refine (ins_op ⟨6, xr, xsS, xn⟩ _).mono ?_
        rintro e w1 ⟨rfl, hb1⟩
        have k2 := k1.below hb1 k1.lt
        obtain ⟨hc3, -⟩ := k2.at_ 3 rfl
        go_wp2_with fail
        exact ⟨⟨k + 1, by omega, by go_num, HT', hBa.trans (hb1.mono hBa.size)⟩, by simp [intOf]; omega⟩
      · have HF : Hid (tgtOk xs = false) := Lib.hid (allN_false hxk.out (by rw [htb]; simp [inB]; omega))
        clear htb
        go_wp2_with fail
        refine (ins_op ⟨6, xr, xsS, xn⟩ _).mono ?_
        rintro e w1 ⟨rfl, hb1⟩
        have k2 := k1.below hb1 k1.lt
        obtain ⟨hc3, -⟩ := k2.at_ 3 rfl
        go_wp2_with fail
        go_ret
        exact ⟨ret_bool HF.out.symm, hBa.trans (hb1.mono hBa.size)⟩
      · have HF : Hid (tgtOk xs = false) := Lib.hid (allN_false hxk.out (by rw [htb]; simp [inB]; omega))
        clear htb
        go_wp2_with fail
        refine (ins_op ⟨6, xr, xsS, xn⟩ _).mono ?_
        rintro e w1 ⟨rfl, hb1⟩
        have k2 := k1.below hb1 k1.lt
        obtain ⟨hc3, -⟩ := k2.at_ 3 rfl
        go_wp2_with fail
        go_ret
        exact ⟨ret_bool HF.out.symm, hBa.trans (hb1.mono hBa.size)⟩
      · have hq : (xo == 6) = false := by simp [h6]
        have HT' := Lib.hid (allN_snoc HT.out hxk.out (by rw [htb, hq]; simp))
        clear htb h6
        go_wp2_with fail
        refine (ins_op ⟨xo, xr, xsS, xn⟩ _).mono ?_
        rintro e w1 ⟨rfl, hb1⟩
        go_wp2_with fail
        exact ⟨⟨k + 1, by omega, by go_num, HT', hBa.trans (hb1.mono hBa.size)⟩, by simp [intOf]; omega⟩
    · obtain rfl : k = xs.length := by omega
      have HN := HT.out
      rw [List.take_length] at HN
      have HN : Hid (tgtOk xs = true) := Lib.hid HN
      clear hr
      go_wp2_with fail
      go_ret
      exact ⟨ret_bool HN.out.symm, hB⟩
set_option maxHeartbeats 1600000 in
theorem impl_lacksFence (v : Value) (xs : List Ins) (k : Nat) (w : World) (h : Rd w v 4 xs.length (flc xs)) (hk : k < xs.length) :
    Calls Tryz.prog 33 #[v, .int .i64 k] w fun e w' => e = .returned (.bool (lacksB xs k)) ∧ Below w.heap.size w w' := by
  obtain ⟨A, c, rfl, -, hnc, hc, hr⟩ := h
  unfold maxLen at hc
  obtain ⟨b, o, rfl, hb, hcell⟩ := hr (by omega)
  obtain ⟨x, hxk, hx0, hx1, hx2, hx3⟩ := ins_at hcell hk
  obtain ⟨xo, xr, xsS, xn⟩ := x
  simp only at hx0 hx1 hx2 hx3
  have hlk : lacksB xs k = (xo == 3 && (match xs[k + 1]? with | some y => y.o != 4 | none => true)) := by unfold lacksB; rw [hxk.out]; rfl
  by_cases h3 : xo = 3
  · subst h3
    by_cases hk1 : k + 1 < xs.length
    · obtain ⟨y, hyk, hy0, hy1, hy2, hy3⟩ := ins_at hcell hk1
      have HF : Hid (lacksB xs k = (y.o != 4)) := Lib.hid (by rw [hlk]; simp [hyk.out])
      have hk2 : ((k : Int) + 1 == (xs.length : Int)) = false := by simp; omega
      clear hlk hcell hr
      go_enter Tryz.func33, Tryz.ntmps33
      go_wp2_with fail
      refine (ins_op ⟨3, xr, xsS, xn⟩ _).mono ?_
      rintro e w1 ⟨rfl, hb1⟩
      have hy0' := (hb1.cell (p := ⟨b, o + (k + 1) * 4, none⟩) hb).trans hy0
      have hy1' := (hb1.cell (p := ⟨b, o + (k + 1) * 4 + 1, none⟩) hb).trans hy1
      have hy2' := (hb1.cell (p := ⟨b, o + (k + 1) * 4 + 2, none⟩) hb).trans hy2
      have hy3' := (hb1.cell (p := ⟨b, o + (k + 1) * 4 + 3, none⟩) hb).trans hy3
      go_wp2_with fail
      refine (ins_op y _).mono ?_
      rintro e w2 ⟨rfl, hb2⟩
      go_wp2_with fail
      go_ret
      exact ⟨ret_bool HF.out.symm, hb1.trans (hb2.mono hb1.size)⟩
    · have HF : Hid (lacksB xs k = true) := Lib.hid (by rw [hlk, List.getElem?_eq_none (by omega)]; simp)
      have hk2 : ((k : Int) + 1 == (xs.length : Int)) = true := by simp; omega
      clear hlk hcell hr
      go_enter Tryz.func33, Tryz.ntmps33
      go_wp2_with fail
      refine (ins_op ⟨3, xr, xsS, xn⟩ _).mono ?_
      rintro e w1 ⟨rfl, hb1⟩
      go_wp2_with fail
      go_ret
      exact ⟨ret_bool HF.out.symm, hb1⟩
  · have hq : (xo == 3) = false := by simp [h3]
    have HF : Hid (lacksB xs k = false) := Lib.hid (by rw [hlk, hq]; simp)
    clear hlk hcell hr h3
    go_enter Tryz.func33, Tryz.ntmps33
    go_wp2_with fail
    refine (ins_op ⟨xo, xr, xsS, xn⟩ _).mono ?_
    rintro e w1 ⟨rfl, hb1⟩
    go_wp2_with fail
    go_ret
    exact ⟨ret_bool HF.out.symm, hb1⟩
theorem owns_cap {w : World} {base : Nat} {e : TypeId} {size : Nat} {A : Option Addr} {n m c : Nat} {xs : List Value} (h : w.ownsRow base e size (.slice A m c) n xs) : n ≤ c ∧ c ≤ 9223372036854775807 := by
  obtain ⟨A', c', e1, h1, h2⟩ := owns_slice h
  injection e1 with ea en ec
  subst ec
  exact ⟨h1, h2⟩
set_option maxHeartbeats 1600000 in
theorem impl_retarget (AO AM : Option Addr) (cO cM : Nat) (L : List Ins) (M : List Int) (base : Nat) (w : World) (hO : w.ownsRow base 37 4 (.slice AO L.length cO) L.length (flc L)) (hM : w.ownsRow base 3 1 (.slice AM M.length cM) M.length (ints M))
    (hb : base ≤ w.heap.size) (hL : L.length ≤ 32) (hML : M.length ≤ 32) (hT : Hid (∀ i ∈ L, i.o = 6 → 0 ≤ i.n ∧ i.n < M.length)) :
    Calls Tryz.prog 34 #[.slice AO L.length cO, .slice AM M.length cM] w fun e w' => e = .returned (.tuple #[]) ∧ w'.ownsRow base 37 4 (.slice AO L.length cO) L.length (flc (L.map (retI M))) ∧ Below base w w' := by
  have hcO := owns_cap hO
  have hcM := owns_cap hM
  go_enter Tryz.func34, Tryz.ntmps34
  go_wp2_with fail
  go_loopw [7] (fun j ws => ∃ m : Nat, m ≤ L.length ∧ j = .int .i64 m ∧ ws.ownsRow base 37 4 (.slice AO L.length cO) L.length (flc (retAt M L m)) ∧ ws.ownsRow base 3 1 (.slice AM M.length cM) M.length (ints M) ∧ Below base w ws) (fun j _ => L.length - (intOf j).toNat)
  case atStart => exact ⟨0, Nat.zero_le _, rfl, by rw [retAt_zero]; exact hO, hM, Below.refl _ _⟩
  case round =>
    obtain ⟨m, hm, rfl, hOr, hMr, hBr⟩ := hrel
    clear hO hM
    by_cases hml : m < L.length
    · obtain ⟨g, rfl⟩ := owns_formS hOr (by omega)
      obtain ⟨x, hxm⟩ : ∃ x, L[m]? = some x := ⟨_, List.getElem?_eq_getElem hml⟩
      have hq := retAt_at (M := M) hxm
      have hx0 : wr.cell? ⟨g, m * 4, none⟩ = some (.int .i64 x.o) := (hOr.cellAt (m * 4) (by omega)).trans (flc_at hq 0 (by omega))
      have hx1 : wr.cell? ⟨g, m * 4 + 1, none⟩ = some (.int .i64 x.r) := (hOr.cellAt (m * 4 + 1) (by omega)).trans (flc_at hq 1 (by omega))
      have hx2 : wr.cell? ⟨g, m * 4 + 2, none⟩ = some (.int .i64 x.s) := (hOr.cellAt (m * 4 + 2) (by omega)).trans (flc_at hq 2 (by omega))
      have hx3 : wr.cell? ⟨g, m * 4 + 3, none⟩ = some (.int .i64 x.n) := (hOr.cellAt (m * 4 + 3) (by omega)).trans (flc_at hq 3 (by omega))
      have HXM := Lib.hid hxm
      have gl := (hOr.lt g rfl).2
      clear hxm hq
      obtain ⟨xo, xr, xsS, xn⟩ := x
      simp only at hx0 hx1 hx2 hx3
      by_cases h6 : xo = 6
      · subst h6
        obtain ⟨hn0, hn1⟩ := hT.out ⟨6, xr, xsS, xn⟩ (List.mem_of_getElem? HXM.out) rfl
        simp only at hn0 hn1
        obtain ⟨g2, rfl⟩ := owns_formS hMr (by omega)
        obtain ⟨y, hy⟩ : ∃ y, M[xn.toNat]? = some y := ⟨_, List.getElem?_eq_getElem (by omega)⟩
        have g2l := (hMr.lt g2 rfl).2
        go_wp2_with fail
        refine (ins_op ⟨6, xr, xsS, xn⟩ _).mono ?_
        rintro e w1 ⟨rfl, hb1⟩
        have hO1 := ownsRow_below hOr hb1
        have hM1 := ownsRow_below hMr hb1
        have hx3a := (hb1.cell (p := ⟨g, m * 4 + 3, none⟩) gl).trans hx3
        have hyc : w1.cell? ⟨g2, xn.toNat, none⟩ = some (.int .i64 y) := (hM1.cellAt xn.toNat (by omega)).trans (by simp [ints, hy])
        have hfz := hO1.frozenAt (m * 4 + 3)
        have hst := hO1.stored (m * 4 + 3) (.int .i64 y)
        have HR := Lib.hid (retAt_snoc (M := M) HXM.out)
        have HQ := Lib.hid (retAt_at (M := M) HXM.out)
        have HRI : Hid (retI M ⟨6, xr, xsS, xn⟩ = ⟨6, xr, xsS, y⟩) := Lib.hid (by simp [retI, hy])
        clear hy hx0 hx1 hx2 hx3
        have hO3 : (w1.setCell ⟨g, m * 4 + 3, none⟩ (.int .i64 y)).ownsRow base 37 4 (.slice (some ⟨g, 0, none⟩) L.length cO) L.length (flc (retAt M L (m + 1))) := by
          rw [HR.out, HRI.out, ← flc_set HQ.out]
          exact hst.1
        have hM3 := hM1.kept hst.2 (own_ne hM1 hO1 (by decide))
        have hB2 := hBr.trans (hb1.mono (Nat.le_trans hb hBr.size))
        have hB3 := hB2.setCell (p := ⟨g, m * 4 + 3, none⟩) (hOr.lt g rfl).1 (.int .i64 y)
        clear hst
        go_wp2_with fail
        exact ⟨⟨m + 1, by omega, by go_num, hO3, hM3, hB3⟩, by simp [intOf]; omega⟩
      · have hq6 : (xo == 6) = false := by simp [h6]
        have HR := Lib.hid (retAt_keep (M := M) HXM.out h6)
        clear h6
        go_wp2_with fail
        refine (ins_op ⟨xo, xr, xsS, xn⟩ _).mono ?_
        rintro e w1 ⟨rfl, hb1⟩
        have hO1 := ownsRow_below hOr hb1
        have hM1 := ownsRow_below hMr hb1
        have hB2 := hBr.trans (hb1.mono (Nat.le_trans hb hBr.size))
        clear hx0 hx1 hx2 hx3
        go_wp2_with fail
        exact ⟨⟨m + 1, by omega, by go_num, by rw [HR.out]; exact hO1, hM1, hB2⟩, by simp [intOf]; omega⟩
    · obtain rfl : m = L.length := by omega
      rw [retAt_all] at hOr
      go_wp2_with fail
      exact bodyPost_end (results_none rfl _ _ _) rfl ⟨rfl, hOr, hBr⟩
def movPart (xs : List Ins) (k : Nat) : List Int := movAt xs k ++ List.replicate (xs.length + 1 - k) 0
theorem movPart_zero (xs : List Ins) : List.replicate (xs.length + 1) (Value.int .i64 0) = ints (movPart xs 0) := by simp [movPart, movAt, ints]
theorem movPart_len (xs : List Ins) {k : Nat} (h : k ≤ xs.length + 1) : (movPart xs k).length = xs.length + 1 := by simp [movPart, movAt_len]; omega
theorem movPart_all (xs : List Ins) : movPart xs (xs.length + 1) = movAt xs (xs.length + 1) := by simp [movPart]
theorem movPart_set (xs : List Ins) {k : Nat} (h : k < xs.length + 1) : (movPart xs k).set k ((fenAt xs k).length : Int) = movPart xs (k + 1) := by
  unfold movPart
  rw [List.set_append_right _ _ (by rw [movAt_len]; omega), movAt_len, Nat.sub_self, movAt_snoc, List.append_assoc]
  congr 1
  obtain ⟨d, hd⟩ : ∃ d, xs.length + 1 - k = d + 1 := ⟨xs.length - k, by omega⟩
  rw [hd, show xs.length + 1 - (k + 1) = d by omega, List.replicate_succ, List.set_cons_zero]
  rfl
theorem movAt_entry (xs : List Ins) : ∀ i ∈ fenAt xs xs.length, True := fun _ _ => trivial
set_option maxHeartbeats 6400000 in
theorem impl_WithFences (v : Value) (xs : List Ins) (w : World) (h : Rd w v 4 xs.length (flc xs)) :
    Calls Tryz.prog 12 #[v] w (RetCodeB ((wfF xs).getD []) (wfF xs).isSome w) := by
  obtain ⟨A, c, rfl, -, hnc, hc, hr⟩ := id h
  have HH := Lib.hid h
  clear h
  unfold maxLen at hc
  obtain ⟨i, hi, hiz0, hiz1, hiz2⟩ := info_parts infoInt
  obtain ⟨s, hs, hsz0, hsz1, hsz2⟩ := info_parts infoIns
  by_cases hlen : xs.length ≤ 16
  · have hT := impl_targetsOk _ xs w HH.out
    cases htg : tgtOk xs
    · have HF : Hid (wfF xs = none) := Lib.hid (by simp [wfF, htg])
      rw [htg] at hT
      have HT := Lib.hid hT
      clear hT htg hr
      go_enter Tryz.func12, Tryz.ntmps12
      go_wp2_with fail
      refine HT.out.mono ?_
      rintro e w1 ⟨rfl, hb1⟩
      go_wp2_with fail
      exact bodyPost_ret (v := .tuple #[.slice none 0 0, .bool false]) (by simp [results, Tryz.results12, go_sem]) rfl ⟨_, [], by rw [HF.out]; rfl, by rw [HF.out]; exact Own.nil _ _, by simp, hb1⟩
    · rw [htg] at hT
      have HT := Lib.hid hT
      have HG := Lib.hid htg
      clear hT htg
      go_enter Tryz.func12, Tryz.ntmps12
      go_wp2_with fail
      refine HT.out.mono ?_
      rintro e w0 ⟨rfl, hB0⟩
      go_wp2_with (at_make; refine wpList_make_full _ rfl _ _ 58 rfl w.heap.size 3 i (.int .i64 0) 1 Tryz.underlying58 hi hiz0 hiz1 _ _ _ _ (xs.length + 1) rfl rfl (by simp) (by simp) (by rw [hiz2]; omega) (by unfold maxLen; omega) hB0.size ?_)
      intro w1 hown hg1
      have hM0 : w1.ownsRow w.heap.size 3 1 (.slice (some ⟨w0.heap.size, 0, none⟩) (xs.length + 1) (xs.length + 1)) (xs.length + 1) (ints (movPart xs 0)) := by
        rw [← movPart_zero]
        simpa [toList_madeCells_one, Value.cells] using hown
      have hB1 : Below w.heap.size w w1 := hB0.grown hg1 hB0.size (by simp)
      clear hown hg1
      go_wp2_with fail
      go_loopw [4, 22] (fun vo j wr => ∃ (k : Nat) (L : List Ins), k ≤ xs.length ∧ j = .int .i64 k ∧ L.length ≤ 2 * k ∧ Hid (L = fenAt xs k) ∧ wr.ownsRow w.heap.size 37 4 vo L.length (flc L) ∧
        wr.ownsRow w.heap.size 3 1 (.slice (some ⟨w0.heap.size, 0, none⟩) (xs.length + 1) (xs.length + 1)) (xs.length + 1) (ints (movPart xs k)) ∧ Below w.heap.size w wr) (fun _ j _ => xs.length - (intOf j).toNat)
      case atStart => exact ⟨0, [], Nat.zero_le _, rfl, Nat.le_refl _, Lib.hid rfl, ⟨rfl, .inl ⟨rfl, rfl⟩⟩, hM0, hB1⟩
      case round =>
        obtain ⟨k, L, hk, rfl, hL, HL, hO, hM, hB⟩ := hrel
        clear hM0 hB1
        obtain ⟨AO, cO, rfl, hcO, hcOm⟩ := owns_slice hO
        by_cases hlt : k < xs.length
        · obtain ⟨b, o, rfl, hb, hcell⟩ := hr (by omega)
          obtain ⟨x, hxk, hx0, hx1, hx2, hx3⟩ := ins_at (fun j u hu => (hB.cell (p := ⟨b, o + j, none⟩) hb).trans (hcell j u hu)) hlt
          have HS := Lib.hid (fenAt_snoc hxk.out)
          obtain ⟨xo, xr, xsS, xn⟩ := x
          simp only at hx0 hx1 hx2 hx3
          clear hcell hr
          have hcm0 : wr.cell? ⟨w0.heap.size, k, none⟩ = some (.int .i64 ((movPart xs k).getD k 0)) := (hM.cellAt k (by omega)).trans (ints_at (by rw [movPart_len xs (by omega)]; omega))
          have hfz := hM.frozenAt k
          have hml := hM.lt w0.heap.size rfl
          obtain ⟨mk, hmk⟩ : ∃ mk, (movPart xs k).getD k 0 = mk := ⟨_, rfl⟩
          rw [hmk] at hcm0
          clear hmk
          -- the store into moved, and the new variable 'in'
          have hst := hM.stored k (.int .i64 L.length)
          have hms : Hid ((ints (movPart xs k)).set k (.int .i64 L.length) = ints (movPart xs (k + 1))) := Lib.hid (by rw [ints_set, HL.out, movPart_set xs (by omega)])
          have hM1 := hst.1.alloc (.cells #[.int .i64 xo, .int .i64 xr, .int .i64 xsS, .int .i64 xn] 37)
          rw [hms.out] at hM1
          have hO1 := (hO.kept hst.2 (own_ne hO hM (by decide))).alloc (.cells #[.int .i64 xo, .int .i64 xr, .int .i64 xsS, .int .i64 xn] 37)
          have hB1 := hB.setCell (p := ⟨w0.heap.size, k, none⟩) hml.1 (.int .i64 L.length)
          have hB2 := hB1.alloc hB1.size (.cells #[.int .i64 xo, .int .i64 xr, .int .i64 xsS, .int .i64 xn] 37)
          have k2 := Bk.new (wr.setCell ⟨w0.heap.size, k, none⟩ (.int .i64 L.length)) #[.int .i64 xo, .int .i64 xr, .int .i64 xsS, .int .i64 xn] 37
          have hse : (wr.setCell ⟨w0.heap.size, k, none⟩ (.int .i64 L.length)).heap.size = wr.heap.size := by simp
          rw [hse] at k2
          obtain ⟨wv, hwv⟩ : ∃ wv, (wr.setCell ⟨w0.heap.size, k, none⟩ (.int .i64 L.length)).alloc (.cells #[.int .i64 xo, .int .i64 xr, .int .i64 xsS, .int .i64 xn] 37) = wv := ⟨_, rfl⟩
          rw [hwv] at hO1 hM1 hB2 k2
          have HWV := Lib.hid hwv
          have k2l := k2.lt
          obtain ⟨hk0, -⟩ := k2.at_ 0 rfl
          obtain ⟨hk1, -⟩ := k2.at_ 1 rfl
          obtain ⟨hk2, -⟩ := k2.at_ 2 rfl
          obtain ⟨hk3, -⟩ := k2.at_ 3 rfl
          clear hst hwv hO hM hse hB1
          go_upto_region 9 with (fail)
          rw [HWV.out]
          have hL32 : L.length ≤ 32 := by omega
          go_wp2_with (at_builtin; refine wpList_append_own _ rfl _ _ 31 rfl (w.heap.size) 37 s (.agg #[.int .i64 0, .int .i64 0, .int .i64 0, .int .i64 0]) 4 32 Tryz.underlying31 hs hsz0 hsz1 hsz2 rfl (by decide) _ _ _ rfl (hO1.alloc _) ⟨wv.heap.size, 0, none⟩ 1 1 [.int .i64 xo, .int .i64 xr, .int .i64 xsS, .int .i64 xn] rfl rfl (new_cells _ _ _) (by simp [Value.oneCell']) (by unfold maxLen; omega) (by omega) (by have := hB2.size; simp; omega) ?_)
          intro vo3 w3 ho3 hg3 _
          have hB3 := (hB2.alloc hB2.size _).grown hg3 (by have := hB2.size; simp; omega) (fun k hk => by have := (hO1.lt k hk).1; omega)
          have hO3 := owns_snocI (x := ⟨xo, xr, xsS, xn⟩) ho3
          have hM3 := (hM1.alloc (.cells #[.int .i64 xo, .int .i64 xr, .int .i64 xsS, .int .i64 xn] 37)).kept hg3 (own_ne (hM1.alloc (.cells #[.int .i64 xo, .int .i64 xr, .int .i64 xsS, .int .i64 xn] 37)) (hO1.alloc (.cells #[.int .i64 xo, .int .i64 xr, .int .i64 xsS, .int .i64 xn] 37)) (by decide))
          have HR3 : Rd w3 _ 4 xs.length (flc xs) := HH.out.below hB3
          have hl3 : (L ++ [(⟨xo, xr, xsS, xn⟩ : Ins)]).length ≤ 2 * k + 1 := by simp; omega
          obtain ⟨L1, hL1⟩ : ∃ L1, L ++ [(⟨xo, xr, xsS, xn⟩ : Ins)] = L1 := ⟨_, rfl⟩
          rw [hL1] at hO3 hl3
          have HL1 := Lib.hid hL1
          clear hL1 hk0 hk1 hk2 hk3 hx0 hx1 hx2 hx3 ho3 hcm0 hfz hO1 hM1 hg3
          cases hlk : lacksB xs k
          · have HLK := Lib.hid hlk
            have hC := fun (W : World) (h : Rd W (.slice (some ⟨b, o, none⟩) xs.length c) 4 xs.length (flc xs)) => impl_lacksFence _ xs k W h hlt
            rw [hlk] at hC
            have HK := Lib.hid hC
            clear hC hlk
            go_wp2_with fail
            refine (HK.out _ HR3).mono ?_
            rintro e w4 ⟨rfl, hb4⟩
            have hO4 := ownsRow_below hO3 hb4
            have hM4 := ownsRow_below hM3 hb4
            have hB4 := hB3.trans (hb4.mono hB3.size)
            go_wp2_with fail
            exact ⟨⟨k + 1, L1, by omega, by go_num, by omega, Lib.hid (by rw [HS.out, HLK.out, ← HL1.out, HL.out]; simp), hO4, hM4, hB4⟩, by simp [intOf]; omega⟩
          · have HLK := Lib.hid hlk
            have hC := fun (W : World) (h : Rd W (.slice (some ⟨b, o, none⟩) xs.length c) 4 xs.length (flc xs)) => impl_lacksFence _ xs k W h hlt
            rw [hlk] at hC
            have HK := Lib.hid hC
            clear hC hlk
            go_wp2_with fail
            refine (HK.out _ HR3).mono ?_
            rintro e w4 ⟨rfl, hb4⟩
            have hO4 := ownsRow_below hO3 hb4
            have hM4 := ownsRow_below hM3 hb4
            have hB4 := hB3.trans (hb4.mono hB3.size)
            go_wp2_with (at_builtin; refine wpList_append_own _ rfl _ _ 31 rfl (w.heap.size) 37 s (.agg #[.int .i64 0, .int .i64 0, .int .i64 0, .int .i64 0]) 4 32 Tryz.underlying31 hs hsz0 hsz1 hsz2 rfl (by decide) _ _ _ rfl (hO4.alloc _) ⟨w4.heap.size, 0, none⟩ 1 1 [.int .i64 4, .int .i64 0, .int .i64 0, .int .i64 0] rfl rfl (new_cells _ _ _) (by simp [Value.oneCell']) (by unfold maxLen; omega) (by omega) (by have := hB4.size; simp; omega) ?_)
            intro vo5 w5 ho5 hg5 _
            have hB5 := (hB4.alloc hB4.size _).grown hg5 (by have := hB4.size; simp; omega) (fun k hk => by have := (hO4.lt k hk).1; omega)
            have hO5 := owns_snocI (x := fenceI) ho5
            have hM5 := (hM4.alloc (.cells #[.int .i64 4, .int .i64 0, .int .i64 0, .int .i64 0] 37)).kept hg5 (own_ne (hM4.alloc (.cells #[.int .i64 4, .int .i64 0, .int .i64 0, .int .i64 0] 37)) (hO4.alloc (.cells #[.int .i64 4, .int .i64 0, .int .i64 0, .int .i64 0] 37)) (by decide))
            go_wp2_with fail
            exact ⟨⟨k + 1, L1 ++ [fenceI], by omega, by go_num, by simp; omega, Lib.hid (by rw [HS.out, HLK.out, ← HL1.out, HL.out]; rfl), hO5, hM5, hB5⟩, by simp [intOf]; omega⟩
        · obtain rfl : k = xs.length := by omega
          have hcm0 : wr.cell? ⟨w0.heap.size, xs.length, none⟩ = some (.int .i64 ((movPart xs xs.length).getD xs.length 0)) := (hM.cellAt xs.length (by omega)).trans (ints_at (by rw [movPart_len xs (by omega)]; omega))
          have hfz := hM.frozenAt xs.length
          have hml := hM.lt w0.heap.size rfl
          obtain ⟨mk, hmk⟩ : ∃ mk, (movPart xs xs.length).getD xs.length 0 = mk := ⟨_, rfl⟩
          rw [hmk] at hcm0
          have hst := hM.stored xs.length (.int .i64 L.length)
          have hms : Hid ((ints (movPart xs xs.length)).set xs.length (.int .i64 L.length) = ints (movAt xs (xs.length + 1))) := Lib.hid (by rw [ints_set, HL.out, movPart_set xs (by omega), movPart_all])
          have hM1 := hst.1
          rw [hms.out] at hM1
          have hO1 := hO.kept hst.2 (own_ne hO hM (by decide))
          have hB2 := hB.setCell (p := ⟨w0.heap.size, xs.length, none⟩) hml.1 (.int .i64 L.length)
          obtain ⟨wv, hwv⟩ : ∃ wv, wr.setCell ⟨w0.heap.size, xs.length, none⟩ (.int .i64 L.length) = wv := ⟨_, rfl⟩
          rw [hwv] at hO1 hM1 hB2
          have HWV := Lib.hid hwv
          obtain ⟨M1, hM1e⟩ : ∃ M1, movAt xs (xs.length + 1) = M1 := ⟨_, rfl⟩
          have hMl : M1.length = xs.length + 1 := by rw [← hM1e, movAt_len]
          rw [hM1e] at hM1
          have HM1 := Lib.hid hM1e
          have HMl := Lib.hid hMl
          clear hmk hst hwv hO hM hr hM1e hMl
          go_upto_region 14 with (fail)
          rw [HWV.out]
          by_cases hbig : L.length ≤ 16
          · have HF : Hid (wfF xs = some (L.map (retI M1))) := Lib.hid (by
              unfold wfF
              rw [HL.out] at hbig ⊢
              rw [if_pos ⟨hlen, HG.out, hbig⟩, HM1.out])
            have hM2 := hM1
            rw [← HMl.out] at hM2
            have hR := impl_retarget _ _ _ _ L M1 _ wv hO1 hM2 hB2.size (by omega) (by rw [HMl.out]; omega) (Lib.hid fun i hi h6 => by
              obtain ⟨h1, h2⟩ := fenAt_tgt HG.out (k := xs.length) (i := i) (by rw [← HL.out]; exact hi) h6
              rw [HMl.out]
              exact ⟨h1, by push_cast; omega⟩)
            rw [HMl.out] at hR
            have HR := Lib.hid hR
            clear hR hM2 hcm0 hfz
            go_wp2_with fail
            refine HR.out.mono ?_
            rintro e w2 ⟨rfl, hO2, hb2⟩
            obtain ⟨bs, h1, h2⟩ := Own.of_owns hO2
            go_wp2_with fail
            exact bodyPost_ret (v := .tuple #[.slice AO L.length cO, .bool true]) (by simp [results, Tryz.results12, go_sem]) rfl ⟨_, bs, by rw [HF.out]; rfl, by rw [HF.out]; simpa using h1, h2, hB2.trans hb2⟩
          · have HF : Hid (wfF xs = none) := Lib.hid (by
              unfold wfF
              rw [HL.out] at hbig
              rw [if_neg (fun h => hbig h.2.2)])
            clear hcm0 hfz
            go_wp2_with fail
            exact bodyPost_ret (v := .tuple #[.slice none 0 0, .bool false]) (by simp [results, Tryz.results12, go_sem]) rfl ⟨_, [], by rw [HF.out]; rfl, by rw [HF.out]; exact Own.nil _ _, by simp, hB2⟩
  · have HF : Hid (wfF xs = none) := Lib.hid (by simp [wfF, hlen])
    clear hr
    go_enter Tryz.func12, Tryz.ntmps12
    go_wp2_with fail
    exact bodyPost_ret (v := .tuple #[.slice none 0 0, .bool false]) (by simp [results, Tryz.results12, go_sem]) rfl ⟨_, [], by rw [HF.out]; rfl, by rw [HF.out]; exact Own.nil _ _, by simp, Below.refl _ _⟩
theorem wfF_len (xs : List Ins) : ((wfF xs).getD []).length ≤ 16 := by
  unfold wfF
  split
  · rename_i h
    simpa using h.2.2
  · simp
end Go.Proofs.YtiflooopfpcelacGreatDoor

/- Contract of impl.ParseCode: it answers as the model does. Conditions: the text's length is a string's; the library's tables, the errors' variables and the table of names stand as written. -/
namespace Go.Proofs.YtiflooopfpcelacGreatDoor
set_option maxRecDepth 20000
set_option linter.unusedSimpArgs false
set_option linter.unusedVariables false
open Go.ChangeShapes Go.WideShapes Go.ChangeAt Go.RowKit
set_option linter.unusedVariables false
def codePart (L : List Ins) (n : Nat) : List Value := flc L ++ List.replicate ((n - L.length) * 4) (.int .i64 0)
theorem codePart_zero (n : Nat) : (madeCells #[.int .i64 0, .int .i64 0, .int .i64 0, .int .i64 0] (n * 4)).toList = codePart [] n := by
  have h := insPart_zero (List.replicate n (⟨0, 0, 0, 0⟩ : Ins))
  rw [List.length_replicate] at h
  rw [h]
  simp [insPart, codePart]
theorem codePart_at {L : List Ins} {n k : Nat} (h : L.length = k) (hk : k < n) (j : Nat) (hj : j < 4) : (codePart L n)[k * 4 + j]? = some (.int .i64 0) := by
  unfold codePart
  rw [List.getElem?_append_right (by rw [flc_len]; omega), flc_len, List.getElem?_replicate, if_pos (by rw [h]; have : (n - k) * 4 = n * 4 - k * 4 := Nat.sub_mul _ _ _; omega)]
theorem codePart_set {L : List Ins} {n k : Nat} (h : L.length = k) (hk : k < n) (x : Ins) :
    ((((codePart L n).set (k * 4) (.int .i64 x.o)).set (k * 4 + 1) (.int .i64 x.r)).set (k * 4 + 2) (.int .i64 x.s)).set (k * 4 + 3) (.int .i64 x.n) = codePart (L ++ [x]) n := by
  unfold codePart
  obtain ⟨d, hd⟩ : ∃ d, (n - L.length) * 4 = d + 4 ∧ (n - (L ++ [x]).length) * 4 = d := ⟨(n - k - 1) * 4, by
    rw [h, List.length_append, h]
    simp only [List.length_cons, List.length_nil]
    omega⟩
  rw [hd.1, hd.2, show List.replicate (d + 4) (Value.int .i64 0) = .int .i64 0 :: .int .i64 0 :: .int .i64 0 :: .int .i64 0 :: List.replicate d (.int .i64 0) from rfl]
  rw [set4 _ _ _ _ _ _ _ _ (by rw [flc_len, h])]
  rw [flc_append, flc_one]
  simp [insC]
theorem codePart_all {L : List Ins} {n : Nat} (h : L.length = n) : codePart L n = flc L := by simp [codePart, h]
theorem splitC_call (s : List UInt8) (w : World) (hs : s.length ≤ 1048576) (hm : MaxSet w) :
    Calls Tryz.prog 55 #[str s, .string ⟨#[59, 32]⟩, .int .i64 17] w fun e w' => ∃ N, e = .returned (.slice (some ⟨w.heap.size, 0, none⟩) (piecesC s).length N) ∧ (piecesC s).length ≤ N ∧ N ≤ 17 ∧ w.heap.size < w'.heap.size ∧ Below w.heap.size w w' ∧
      ∀ j p, (piecesC s)[j]? = some p → w'.cell? ⟨w.heap.size, j, none⟩ = some (str p) := by
  obtain ⟨m0, hm0⟩ := hm
  refine (Tryz.strings_SplitN ⟨s.toArray⟩ ⟨#[59, 32]⟩ 17 m0 w (by show s.toArray.size < _; simp; omega) hm0 (by decide) (by decide) (by decide)).mono ?_
  rintro e w' ⟨rfl, rfl⟩
  have hsz : (⟨s.toArray⟩ : ByteArray).size = s.length := by show s.toArray.size = _; simp
  have hd := Lib.splitB_data ⟨#[59, 32]⟩ 0 (min 17 ((⟨s.toArray⟩ : ByteArray).size + 1) - 1) ⟨s.toArray⟩
  have hpc : (Lib.splitB ⟨#[59, 32]⟩ 0 (min 17 ((⟨s.toArray⟩ : ByteArray).size + 1) - 1) ⟨s.toArray⟩).map (·.data.toList) = piecesC s := by
    rw [hd, hsz]
    rfl
  have hln : (Lib.splitB ⟨#[59, 32]⟩ 0 (min 17 ((⟨s.toArray⟩ : ByteArray).size + 1) - 1) ⟨s.toArray⟩).length = (piecesC s).length := by rw [← hpc, List.length_map]
  have hle := Lib.splitB_length_le ⟨#[59, 32]⟩ 0 (min 17 ((⟨s.toArray⟩ : ByteArray).size + 1) - 1) ⟨s.toArray⟩
  rw [hln] at hle ⊢
  refine ⟨_, rfl, by omega, by omega, by simp, (Below.refl _ _).alloc (Nat.le_refl _) _, fun j p hp => ?_⟩
  rw [World.cell?_alloc_new]
  have hj := (List.getElem?_eq_some_iff.1 hp).1
  unfold Lib.cellsOf
  simp only [List.getElem?_toArray]
  rw [List.getElem?_append_left (by rw [List.length_map, hln]; exact hj), List.getElem?_map]
  rw [← hpc, List.getElem?_map] at hp
  cases hx : (Lib.splitB ⟨#[59, 32]⟩ 0 (min 17 ((⟨s.toArray⟩ : ByteArray).size + 1) - 1) ⟨s.toArray⟩)[j]? with
  | none => rw [hx] at hp; cases hp
  | some q =>
    rw [hx] at hp
    injection hp with hp
    subst hp
    rfl
theorem piecesC_part (s : List UInt8) : ∀ p ∈ piecesC s, p.length ≤ s.length := by
  have hj := (join_splitK (min 17 (s.length + 1) - 1) s).1
  have key : ∀ (l : List (List UInt8)), ∀ p ∈ l, p.length ≤ (Lib.join l sepC).length := by
    intro l
    induction l with
    | nil => intro p hp; simp at hp
    | cons t l ih =>
      intro p hp
      cases l with
      | nil =>
        rw [Lib.join_one]
        simp at hp
        subst hp
        exact Nat.le_refl _
      | cons u l =>
        rw [join_cons2]
        rcases List.mem_cons.1 hp with rfl | hp
        · simp
        · have := ih p hp
          simp only [List.length_append]
          omega
  intro p hp
  have := key _ p hp
  rw [show Lib.join (piecesC s) sepC = s from hj] at this
  exact this
set_option maxHeartbeats 6400000 in
theorem parseInstrs (s : List UInt8) (w : World) (hs : s.length ≤ 1048576) (hE : EnvP w) :
    Calls Tryz.prog 30 #[str s, .int .i64 16, .string ⟨#[59, 32]⟩, .func (.func 31) #[] #[]] w (RetCodeB ((codeCF s).getD []) (codeCF s).isSome w) := by
  have HE := Lib.hid hE
  clear hE
  cases hsc : s with
  | nil =>
    go_enter Tryz.func30, Tryz.ntmps30
    go_wp2_with fail
    exact bodyPost_ret (v := .tuple #[.slice none 0 0, .bool true]) (by simp [results, Tryz.results30, go_sem]) rfl ⟨_, [], by simp [codeCF], Own.nil _ _, by simp, Below.refl _ _⟩
  | cons ch s' =>
    have hne : s ≠ [] := by rw [hsc]; simp
    have hP := splitC_call s w hs HE.out.env.max
    have hpp : ∀ p ∈ piecesC s, p.length ≤ 1048576 := fun p hp => Nat.le_trans (piecesC_part s p hp) hs
    have hcf : codeCF s = if 16 < (piecesC s).length then none else (piecesC s).mapM parseIF := by unfold codeCF; rw [if_neg hne]
    obtain ⟨ps, hps⟩ : ∃ ps, piecesC s = ps := ⟨_, rfl⟩
    rw [hps] at hP hcf hpp
    obtain ⟨s2, hs2⟩ : ∃ s2, codeCF s = s2 := ⟨_, rfl⟩
    rw [hs2] at hcf
    rw [← hsc, hs2]
    have HP := Lib.hid hP
    have HPP := Lib.hid hpp
    have HCF := Lib.hid hcf
    rw [hsc] at HP ⊢
    obtain ⟨i, hi, hz0, hz1, hz2⟩ := info_parts infoIns
    clear hP hps hsc hne hs2 hpp hcf
    go_enter Tryz.func30, Tryz.ntmps30
    go_wp2_with fail
    refine HP.out.mono ?_
    rintro e w1 ⟨N, rfl, hnN, hN17, hl1, hB1, hc1⟩
    have HC1 := Lib.hid hc1
    clear hc1
    by_cases hlen : 16 < ps.length
    · have HNone : Hid (s2 = none) := Lib.hid (by rw [HCF.out, if_pos hlen])
      go_wp2_with fail
      exact bodyPost_ret (v := .tuple #[.slice none 0 0, .bool false]) (by simp [results, Tryz.results30, go_sem]) rfl ⟨_, [], by rw [HNone.out]; rfl, by rw [HNone.out]; exact Own.nil _ _, by simp, hB1⟩
    · have HCF2 : Hid (s2 = ps.mapM parseIF) := Lib.hid (by rw [HCF.out, if_neg hlen])
      go_wp2_with (at_make; refine wpList_make_full _ rfl _ _ 31 rfl w1.heap.size 37 i (.agg #[.int .i64 0, .int .i64 0, .int .i64 0, .int .i64 0]) 4 Tryz.underlying31 hi hz0 hz1 _ _ _ _ ps.length rfl rfl rfl rfl (by rw [hz2]; omega) (by unfold maxLen; omega) (Nat.le_refl _) ?_)
      intro w2 hown hg2
      rw [codePart_zero] at hown
      have hb2 : Below w1.heap.size w1 w2 := (Below.refl _ _).grown hg2 (Nat.le_refl _) (by simp)
      have hsz1 := hB1.size
      clear hg2
      go_wp2_with fail
      go_loopw [32] (fun j wr => ∃ (k : Nat) (L : List Ins), k ≤ ps.length ∧ j = .int .i64 k ∧ Hid (L.length = k ∧ (ps.take k).mapM parseIF = some L) ∧ wr.ownsRow w1.heap.size 37 4 (.slice (some ⟨w1.heap.size, 0, none⟩) ps.length ps.length) ps.length (codePart L ps.length) ∧ Below w1.heap.size w1 wr) (fun j _ => ps.length - (intOf j).toNat)
      case atStart => exact ⟨0, [], Nat.zero_le _, rfl, Lib.hid ⟨rfl, by simp⟩, hown, hb2⟩
      case round =>
        obtain ⟨k, L, hk, rfl, HL, hO, hB⟩ := hrel
        clear hown hb2
        have hBw := hB1.trans (hB.mono hsz1)
        by_cases hlt : k < ps.length
        · obtain ⟨p, hp⟩ := opt_at hlt
          have hpc := (hB.cell (p := ⟨w.heap.size, k, none⟩) hl1).trans (HC1.out k p hp)
          have hPI := impl_ParseInstr p wr (HPP.out p (List.mem_of_getElem? hp)) (HE.out.below hBw (Nat.le_refl _))
          unfold RetInsB at hPI
          have HPk := Lib.hid hp
          clear hp
          cases ho : parseIF p with
          | none =>
            have HNone : Hid (s2 = none) := Lib.hid (by rw [HCF2.out, mapM_none HPk.out ho])
            rw [ho] at hPI
            have HPI : Hid (Calls Tryz.prog 31 #[str p] wr fun e w' => e = .returned (.tuple #[.agg #[.int .i64 0, .int .i64 0, .int .i64 0, .int .i64 0], .bool false]) ∧ Below wr.heap.size wr w') := Lib.hid hPI
            clear hPI ho
            go_wp2_with fail
            refine HPI.out.mono ?_
            rintro e w5 ⟨rfl, hb5⟩
            have hB5 := hBw.trans (hb5.mono hBw.size)
            go_wp2_with fail
            exact bodyPost_ret (v := .tuple #[.slice none 0 0, .bool false]) (by simp [results, Tryz.results30, go_sem]) rfl ⟨_, [], by rw [HNone.out]; rfl, by rw [HNone.out]; exact Own.nil _ _, by simp, hB5.alloc hB5.size _⟩
          | some x =>
            have HL' : Hid ((L ++ [x]).length = k + 1 ∧ (ps.take (k + 1)).mapM parseIF = some (L ++ [x])) := Lib.hid ⟨by simp [HL.out.1], mapM_snoc HL.out.2 HPk.out ho⟩
            have HPS := Lib.hid fun (y : Ins) => codePart_set HL.out.1 hlt y
            have HPA := Lib.hid fun (j : Nat) (hj : j < 4) => codePart_at HL.out.1 hlt j hj
            rw [ho] at hPI
            obtain ⟨xo, xr, xsS, xn⟩ := x
            have hPI2 : Calls Tryz.prog 31 #[str p] wr fun e w' => e = .returned (.tuple #[.agg #[.int .i64 xo, .int .i64 xr, .int .i64 xsS, .int .i64 xn], .bool true]) ∧ Below wr.heap.size wr w' := hPI
            have HPI := Lib.hid hPI2
            clear hPI hPI2 ho
            go_wp2_with fail
            refine HPI.out.mono ?_
            rintro e w5 ⟨rfl, hb5⟩
            have hB5 := hB.trans (hb5.mono hB.size)
            have hB5a := hB5.alloc hB5.size (.cells #[.int .i64 xo, .int .i64 xr, .int .i64 xsS, .int .i64 xn] 37)
            have hO5 := (ownsRow_below hO hb5).alloc (.cells #[.int .i64 xo, .int .i64 xr, .int .i64 xsS, .int .i64 xn] 37)
            have k5 := Bk.new w5 #[.int .i64 xo, .int .i64 xr, .int .i64 xsS, .int .i64 xn] 37
            obtain ⟨wv, hwv⟩ : ∃ wv, w5.alloc (.cells #[.int .i64 xo, .int .i64 xr, .int .i64 xsS, .int .i64 xn] 37) = wv := ⟨_, rfl⟩
            rw [hwv] at hB5a hO5 k5
            have HWV := Lib.hid hwv
            clear hO hb5 hwv hpc
            go_upto_region 13 with (fail)
            rw [HWV.out]
            obtain ⟨hk0, -⟩ := k5.at_ 0 rfl
            obtain ⟨hk1, -⟩ := k5.at_ 1 rfl
            obtain ⟨hk2, -⟩ := k5.at_ 2 rfl
            obtain ⟨hk3, -⟩ := k5.at_ 3 rfl
            have hc0 := (hO5.cellAt (k * 4) (by omega)).trans (HPA.out 0 (by omega))
            have hc1 := (hO5.cellAt (k * 4 + 1) (by omega)).trans (HPA.out 1 (by omega))
            have hc2 := (hO5.cellAt (k * 4 + 2) (by omega)).trans (HPA.out 2 (by omega))
            have hc3 := (hO5.cellAt (k * 4 + 3) (by omega)).trans (HPA.out 3 (by omega))
            have hf0 := hO5.frozenAt (k * 4)
            have hf1 := hO5.frozenAt (k * 4 + 1)
            have hf2 := hO5.frozenAt (k * 4 + 2)
            have hf3 := hO5.frozenAt (k * 4 + 3)
            go_wp2_with fail
            exact ⟨⟨k + 1, L ++ [⟨xo, xr, xsS, xn⟩], by omega, by go_num, HL', (HPS.out ⟨xo, xr, xsS, xn⟩) ▸ owns_set4 hO5 (k * 4) (k * 4 + 1) (k * 4 + 2) (k * 4 + 3) (.int .i64 xo) (.int .i64 xr) (.int .i64 xsS) (.int .i64 xn), below_set4 hB5a (Nat.le_refl _) _ _ _ _ _ _ _ _⟩, by simp [intOf]; omega⟩
        · obtain rfl : k = ps.length := by omega
          have HSome : Hid (s2 = some L) := Lib.hid (by
            have := HL.out.2
            rw [List.take_length] at this
            rw [HCF2.out, this])
          rw [codePart_all HL.out.1] at hO
          have hLl : Hid (L.length = ps.length) := Lib.hid HL.out.1
          obtain ⟨bs, h1, h2⟩ := Own.of_owns hO
          go_wp2_with fail
          exact bodyPost_ret (v := .tuple #[.slice (some ⟨w1.heap.size, 0, none⟩) ps.length ps.length, .bool true]) (by simp [results, Tryz.results30, go_sem]) rfl ⟨_, bs, by rw [HSome.out]; rfl, by rw [HSome.out]; show Own _ _ 4 L.length (flc L) bs; rw [hLl.out]; exact h1, fun b hb => Nat.le_trans hsz1 (h2 b hb), hBw⟩
set_option maxHeartbeats 800000 in
theorem impl_ParseCode (s : List UInt8) (w : World) (hs : s.length ≤ 1048576) (hE : EnvP w) :
    Calls Tryz.prog 9 #[str s] w (RetCodeB ((codeCF s).getD []) (codeCF s).isSome w) := by
  have HC := Lib.hid (parseInstrs s w hs hE)
  clear hE
  go_enter Tryz.func9, Tryz.ntmps9
  go_wp2_with fail
  refine HC.out.mono ?_
  rintro e w1 ⟨v1, bs1, rfl, h1, h2, h3⟩
  go_wp2_with fail
  go_ret2
  exact ⟨v1, bs1, rfl, h1, h2, h3⟩
theorem codeCF_len (s : List UInt8) : ((codeCF s).getD []).length ≤ 16 := by
  cases h : codeCF s with
  | none => simp
  | some xs =>
    by_cases hs : s = []
    · subst hs
      simp [codeCF] at h
      subst h
      simp
    · exact (code_to hs h).2.1
theorem spec_PC (s : List UInt8) (w : World) (rL : List Ins) (rb : Bool) (hs : s.length ≤ 1048576) (h1 : (codeCF s).getD [] = rL) (h2 : (codeCF s).isSome = rb) :
    Calls Tryz.prog 63 #[str s] w (RetCodeB rL rb w) := by
  have := spec_ParseCode s w hs
  rwa [h1, h2] at this
theorem impl_PC (s : List UInt8) (w : World) (rL : List Ins) (rb : Bool) (hs : s.length ≤ 1048576) (h1 : (codeCF s).getD [] = rL) (h2 : (codeCF s).isSome = rb) (hE : EnvP w) :
    Calls Tryz.prog 9 #[str s] w (RetCodeB rL rb w) := by
  have := impl_ParseCode s w hs hE
  rwa [h1, h2] at this
end Go.Proofs.YtiflooopfpcelacGreatDoor

/- Plain: what FnCodes asks of a valid code: its text is read back; fences put in twice are as once; behind each store stands a fence. -/
namespace Go.Proofs.YtiflooopfpcelacGreatDoor
set_option maxRecDepth 20000
set_option linter.unusedSimpArgs false
set_option linter.unusedVariables false
open Go.ChangeShapes Go.WideShapes Go.ChangeAt Go.RowKit
theorem itoa_no32 (v : Int) : ∀ b ∈ Lib.itoa v, b ≠ 32 := itoa_bytes v
theorem wordF_no32 {o : Int} (h : inB o 0 8 = true) : ∀ b ∈ wordF o, b ≠ 32 := by
  rcases op_cases h with rfl | rfl | rfl | rfl | rfl | rfl | rfl | rfl | rfl <;> decide
theorem parts_args (x : Ins) : ∀ (f : List UInt8) (p : List UInt8), (∀ b ∈ p, b ≠ 32) → partsF 32 (p ++ f.flatMap (argF x)) = p :: f.map fun c => Lib.itoa (fldF x c)
  | [], p, h => by simp [partsF_miss 32 p h]
  | c :: f, p, h => by
    have e : p ++ (c :: f).flatMap (argF x) = p ++ 32 :: (Lib.itoa (fldF x c) ++ f.flatMap (argF x)) := by simp [argF]
    rw [e, partsF_hit 32 p _ h, parts_args x f _ (itoa_no32 _)]
    rfl
theorem nz {b : Bool} {v : Int} (hb : b = false) (h : (b || v == 0) = true) : v = 0 := by
  subst hb
  simpa using h
theorem insOk_parts {x : Ins} {cells size : Int} (h : insOk x cells size = true) : inB cells 1 16 = true ∧ inB size 0 16 = true ∧ inB x.o 0 8 = true ∧ inB x.r 0 3 = true ∧ inB x.s 0 3 = true ∧ (namedF x.o 114 || x.r == 0) = true ∧ (namedF x.o 115 || x.s == 0) = true ∧ (namedF x.o 110 || x.n == 0) = true ∧ nOkF x cells size = true := by
  simp only [insOk, Bool.and_eq_true] at h
  obtain ⟨⟨⟨⟨⟨⟨⟨⟨h1, h2⟩, h3⟩, h4⟩, h5⟩, h6⟩, h7⟩, h8⟩, h9⟩ := h
  exact ⟨h1, h2, h3, h4, h5, h6, h7, h8, h9⟩
theorem insOk_n {x : Ins} {cells size : Int} (h : insOk x cells size = true) : -1000 ≤ x.n ∧ x.n ≤ 1000 := by
  obtain ⟨h1, h2, h3, -, -, -, -, h8, h9⟩ := insOk_parts h
  have i1 := inB_true h1
  have i2 := inB_true h2
  obtain ⟨o, r, s, n⟩ := x
  rcases op_cases h3 with h | h | h | h | h | h | h | h | h <;> simp only at h <;> subst h
  · have := inB_true (show inB n (-1000) 1000 = true from h9); exact this
  · have e : n = 0 := nz (show namedF 1 110 = false from rfl) h8; show -1000 ≤ n ∧ n ≤ 1000; omega
  · have := inB_true (show inB n 0 (cells - 1) = true from h9); show -1000 ≤ n ∧ n ≤ 1000; omega
  · have := inB_true (show inB n 0 (cells - 1) = true from h9); show -1000 ≤ n ∧ n ≤ 1000; omega
  · have e : n = 0 := nz (show namedF 4 110 = false from rfl) h8; show -1000 ≤ n ∧ n ≤ 1000; omega
  · have := inB_true (show inB n 0 (cells - 1) = true from h9); show -1000 ≤ n ∧ n ≤ 1000; omega
  · have := inB_true (show inB n 0 size = true from h9); show -1000 ≤ n ∧ n ≤ 1000; omega
  · have := inB_true (show inB n 0 (cells - 1) = true from h9); show -1000 ≤ n ∧ n ≤ 1000; omega
  · have e : n = 0 := nz (show namedF 8 110 = false from rfl) h8; show -1000 ≤ n ∧ n ≤ 1000; omega
theorem fld_small {x : Ins} {cells size : Int} (h : insOk x cells size = true) (c : UInt8) : valB (fldF x c) = true := by
  obtain ⟨h1, h2, h3, h4, h5, -⟩ := insOk_parts h
  have hr := inB_true h4
  have hs := inB_true h5
  have hn := insOk_n h
  unfold fldF valB inB
  split
  · simp; omega
  · split
    · simp; omega
    · simp; omega
theorem valF_itoa {v : Int} (h : valB v = true) : valF (Lib.itoa v) = some v := by
  have h1 := inB_true (show inB v (-1000000) 1000000 = true from h)
  exact valF_some.2 ⟨readF_itoa (by omega), h⟩
theorem build_fields {x : Ins} {cells size : Int} (h : insOk x cells size = true) : buildI x.o (formF x.o) ((formF x.o).map (fldF x)) = x := by
  obtain ⟨-, -, h3, -, -, h6, h7, h8, -⟩ := insOk_parts h
  obtain ⟨o, r, s, n⟩ := x
  rcases op_cases h3 with h | h | h | h | h | h | h | h | h <;> simp only at h <;> subst h
  · have hs : s = 0 := nz (show namedF 0 115 = false from rfl) h7
    subst hs; rfl
  · have hn : n = 0 := nz (show namedF 1 110 = false from rfl) h8
    subst hn; rfl
  · have hs : s = 0 := nz (show namedF 2 115 = false from rfl) h7
    subst hs; rfl
  · have hs : s = 0 := nz (show namedF 3 115 = false from rfl) h7
    subst hs; rfl
  · have hr : r = 0 := nz (show namedF 4 114 = false from rfl) h6
    have hs : s = 0 := nz (show namedF 4 115 = false from rfl) h7
    have hn : n = 0 := nz (show namedF 4 110 = false from rfl) h8
    subst hr hs hn; rfl
  · rfl
  · have hs : s = 0 := nz (show namedF 6 115 = false from rfl) h7
    subst hs; rfl
  · rfl
  · have hn : n = 0 := nz (show namedF 8 110 = false from rfl) h8
    subst hn; rfl
theorem flat_args_len {x : Ins} : ∀ (f : List UInt8), (∀ c, (Lib.itoa (fldF x c)).length ≤ 8) → (f.flatMap (argF x)).length ≤ 9 * f.length
  | [], _ => by simp
  | c :: f, h => by
    have h1 := flat_args_len f h
    have h2 := h c
    simp only [List.flatMap_cons, List.length_append, List.length_cons, argF]
    omega
theorem parse_text {x : Ins} {cells size : Int} (h : insOk x cells size = true) : parseIF (instrTF x) = some x := by
  obtain ⟨-, -, h3, -⟩ := insOk_parts h
  have hk := inB_true h3
  obtain ⟨k, hko⟩ : ∃ k : Nat, x.o = k := ⟨x.o.toNat, by omega⟩
  have hlen : ¬ 60 < (instrTF x).length := by
    have h1 := wordF_len h3
    have h2 := flat_args_len (x := x) (formF x.o) (fun c => itoa_len (by have := inB_true (show inB (fldF x c) (-1000000) 1000000 = true from fld_small h c); omega))
    have h4 := formF_len x.o
    unfold instrTF
    rw [if_pos h3, List.length_append]
    omega
  unfold parseIF
  rw [if_neg hlen]
  unfold instrTF
  rw [if_pos h3, parts_args x _ _ (wordF_no32 h3), parseW_named (k := k) (by omega) (by rw [← hko]), ← hko, if_pos (by simp)]
  have hm : ((formF x.o).map fun c => Lib.itoa (fldF x c)).mapM valF = some ((formF x.o).map (fldF x)) :=
    mapM_get.2 ⟨by simp, fun j a b ha hb => by
      rw [List.getElem?_map] at ha hb
      cases hc : (formF x.o)[j]? with
      | none => rw [hc] at ha; cases ha
      | some c =>
        rw [hc] at ha hb
        injection ha with ha
        injection hb with hb
        subst ha hb
        exact valF_itoa (fld_small h c)⟩
  rw [hm, Option.map_some, build_fields h]
/-- the text of a valid code is read back -/
theorem code_text {xs : List Ins} {cells : Int} (h : codeOkF cells xs = true) : codeTF xs = some (ctext xs) ∧ codeCF (ctext xs) = some xs := by
  unfold codeOkF at h
  rw [Bool.and_eq_true, decide_eq_true_eq, List.all_eq_true] at h
  obtain ⟨hl, hall⟩ := h
  have hop : opsOk xs = true := by
    unfold opsOk
    rw [List.all_eq_true]
    intro x hx
    exact (insOk_parts (hall x hx)).2.2.1
  refine ⟨by unfold codeTF; rw [if_pos ⟨hl, hop⟩], ?_⟩
  cases xs with
  | nil => simp [ctext, Lib.join_nil, codeCF]
  | cons x0 xs =>
    have hp : ∀ p ∈ instrTF x0 :: xs.map instrTF, ∀ b ∈ p, b ≠ 59 := by
      intro p hp
      have : p ∈ (x0 :: xs).map instrTF := hp
      obtain ⟨y, hy, rfl⟩ := List.mem_map.1 this
      exact (parseIF_no59 (parse_text (hall y hy))).1
    have hct : ctext (x0 :: xs) = Lib.join (instrTF x0 :: xs.map instrTF) sepC := rfl
    have hne : ctext (x0 :: xs) ≠ [] := by
      obtain ⟨c, L, hcl⟩ := instrTF_ne (insOk_parts (hall x0 (by simp))).2.2.1
      rw [hct, Lib.join_cons, hcl]
      simp
    have hparts := parts_of_join (xs.map instrTF) (instrTF x0) hp
    have hpl := partsF_len 59 (ctext (x0 :: xs))
    rw [hct, hparts] at hpl
    have hpc : piecesC (ctext (x0 :: xs)) = instrTF x0 :: xs.map instrTF := by
      unfold piecesC
      rw [hct]
      exact splitK_join _ _ _ hp (by simp at hl hpl ⊢; omega)
    unfold codeCF
    rw [if_neg hne, hpc, if_neg (by simp at hl ⊢; omega)]
    refine mapM_get.2 ⟨by simp, fun j a b ha hb => ?_⟩
    have ha' : ((x0 :: xs).map instrTF)[j]? = some a := ha
    rw [List.getElem?_map, hb] at ha'
    injection ha' with ha'
    subst ha'
    exact parse_text (hall b (List.mem_of_getElem? hb))
/-- each store but perhaps the last instruction has a fence behind it -/
def Fenced (L : List Ins) : Prop := ∀ (j : Nat) (x : Ins), L[j]? = some x → x.o = 3 → ∀ y : Ins, L[j + 1]? = some y → y.o = 4
theorem fenced_snoc {L : List Ins} {x : Ins} (h : Fenced L) (hl : ∀ z : Ins, L[L.length - 1]? = some z → z.o = 3 → x.o = 4) : Fenced (L ++ [x]) := by
  intro j a ha ha3 y hy
  have hj : j + 1 < (L ++ [x]).length := (List.getElem?_eq_some_iff.1 hy).1
  rw [List.length_append, List.length_singleton] at hj
  rw [List.getElem?_append_left (by omega)] at ha
  by_cases e : j + 1 < L.length
  · rw [List.getElem?_append_left e] at hy
    exact h j a ha ha3 y hy
  · rw [List.getElem?_append_right (by omega), show j + 1 - L.length = 0 by omega] at hy
    simp at hy
    subst hy
    exact hl a (by rw [show L.length - 1 = j by omega]; exact ha) ha3
theorem last_snoc {L : List Ins} {x z : Ins} (h : (L ++ [x])[(L ++ [x]).length - 1]? = some z) : z = x := by
  rw [List.length_append, List.length_singleton, Nat.add_sub_cancel, List.getElem?_append_right (Nat.le_refl _), Nat.sub_self] at h
  simpa using h.symm
/-- what fences give, instruction by instruction -/
theorem fenAt_fenced (xs : List Ins) : ∀ k, k ≤ xs.length → Fenced (fenAt xs k) ∧ ∀ z : Ins, (fenAt xs k)[(fenAt xs k).length - 1]? = some z → z.o = 3 → ∃ y : Ins, xs[k]? = some y ∧ y.o = 4
  | 0, _ => ⟨by intro j x hx; simp [fenAt] at hx, by intro z hz; simp [fenAt] at hz⟩
  | k + 1, hk => by
    obtain ⟨h1, h2⟩ := fenAt_fenced xs k (by omega)
    have hxk : xs[k]? = some xs[k] := List.getElem?_eq_getElem (by omega)
    rw [fenAt_snoc hxk]
    have hA : Fenced (fenAt xs k ++ [xs[k]]) := fenced_snoc h1 fun z hz hz3 => by
      obtain ⟨y, hy, hy4⟩ := h2 z hz hz3
      rw [hxk] at hy
      injection hy with hy
      rw [hy]
      exact hy4
    cases hlk : lacksB xs k
    · simp only [Bool.false_eq_true, if_false, List.append_nil]
      refine ⟨hA, fun z hz hz3 => ?_⟩
      have e := last_snoc hz
      subst e
      unfold lacksB at hlk
      rw [hxk] at hlk
      simp only [hz3, beq_self_eq_true, Bool.true_and] at hlk
      cases hy : xs[k + 1]? with
      | none => rw [hy] at hlk; cases hlk
      | some y =>
        rw [hy] at hlk
        exact ⟨y, rfl, by simpa using hlk⟩
    · simp only [if_true]
      refine ⟨fenced_snoc hA fun z _ _ => rfl, fun z hz hz3 => ?_⟩
      have e := last_snoc hz
      rw [e] at hz3
      cases hz3
theorem fenced_all (xs : List Ins) : ∀ (j : Nat) (x : Ins), (fenAt xs xs.length)[j]? = some x → x.o = 3 → ∃ y : Ins, (fenAt xs xs.length)[j + 1]? = some y ∧ y.o = 4 := by
  obtain ⟨h1, h2⟩ := fenAt_fenced xs xs.length (Nat.le_refl _)
  intro j x hx hx3
  have hj := (List.getElem?_eq_some_iff.1 hx).1
  by_cases e : j + 1 < (fenAt xs xs.length).length
  · exact ⟨_, List.getElem?_eq_getElem e, h1 j x hx hx3 _ (List.getElem?_eq_getElem e)⟩
  · obtain ⟨y, hy, -⟩ := h2 x (by rw [show (fenAt xs xs.length).length - 1 = j by omega]; exact hx) hx3
    rw [List.getElem?_eq_none (Nat.le_refl _)] at hy
    cases hy
theorem retI_o (M : List Int) (i : Ins) : (retI M i).o = i.o := by unfold retI; split <;> rfl
/-- behind each store of the answer stands a fence -/
theorem wf_fenced {xs ys : List Ins} (h : wfF xs = some ys) {j : Nat} {x : Ins} (hx : ys[j]? = some x) (hx3 : x.o = 3) : ∃ y : Ins, ys[j + 1]? = some y ∧ y.o = 4 := by
  unfold wfF at h
  split at h
  · injection h with h
    subst h
    rw [List.getElem?_map] at hx
    cases ha : (fenAt xs xs.length)[j]? with
    | none => rw [ha] at hx; cases hx
    | some a =>
      rw [ha] at hx
      injection hx with hx
      subst hx
      rw [retI_o] at hx3
      obtain ⟨y, hy, hy4⟩ := fenced_all xs j a ha hx3
      exact ⟨retI _ y, by rw [List.getElem?_map, hy]; rfl, by rw [retI_o]; exact hy4⟩
  · cases h
/-- a code whose stores all have fences behind them stays as it is -/
theorem wf_id {ys : List Ins} (hl : ys.length ≤ 16) (ht : tgtOk ys = true) (hf : ∀ (j : Nat) (x : Ins), ys[j]? = some x → x.o = 3 → ∃ y : Ins, ys[j + 1]? = some y ∧ y.o = 4) : wfF ys = some ys := by
  have hlk : ∀ k, lacksB ys k = false := by
    intro k
    unfold lacksB
    cases hx : ys[k]? with
    | none => rfl
    | some x =>
      by_cases h3 : x.o = 3
      · obtain ⟨y, hy, hy4⟩ := hf k x hx h3
        simp [hy, hy4]
      · simp [h3]
  have hfe : ∀ k, k ≤ ys.length → fenAt ys k = ys.take k := by
    intro k
    induction k with
    | zero => intro _; simp [fenAt]
    | succ k ih =>
      intro hk
      have hx : ys[k]? = some ys[k] := List.getElem?_eq_getElem (by omega)
      rw [fenAt_snoc hx, ih (by omega), hlk k, List.take_add_one, hx]
      simp
  have hall := hfe ys.length (Nat.le_refl _)
  rw [List.take_length] at hall
  unfold wfF
  rw [hall, if_pos ⟨hl, ht, hl⟩]
  congr 1
  apply List.ext_getElem?
  intro j
  rw [List.getElem?_map]
  cases hx : ys[j]? with
  | none => rfl
  | some x =>
    rw [Option.map_some]
    congr 1
    unfold retI
    split
    · rename_i h6
      have ht' := List.all_eq_true.1 ht x (List.mem_of_getElem? hx)
      simp only [tgtB, h6] at ht'
      have hn := inB_true (show inB x.n 0 ys.length = true by simpa using ht')
      have hm : (movAt ys (ys.length + 1)).getD x.n.toNat 0 = x.n := by
        unfold movAt
        rw [List.getD_eq_getElem?_getD, List.getElem?_map, List.getElem?_range (by omega)]
        simp only [Option.map_some, Option.getD_some]
        rw [hfe _ (by omega), List.length_take]
        omega
      rw [hm]
    · rfl
theorem fenAt_mono (xs : List Ins) : ∀ a b, a ≤ b → (fenAt xs a).length ≤ (fenAt xs b).length := by
  intro a b hab
  induction b with
  | zero => simp [show a = 0 by omega]
  | succ b ih =>
    by_cases e : a = b + 1
    · subst e
      exact Nat.le_refl _
    · have := ih (by omega)
      rw [fenAt, List.length_append]
      omega
/-- putting fences in twice is as putting them in once -/
theorem wf_twice {xs ys : List Ins} (h : wfF xs = some ys) : wfF ys = some ys := by
  have h0 := h
  unfold wfF at h
  split at h
  · rename_i hc
    obtain ⟨hl, ht, hl2⟩ := hc
    injection h with h
    refine wf_id (by rw [← h]; simpa using hl2) ?_ (fun j x hx h3 => wf_fenced h0 hx h3)
    unfold tgtOk
    rw [List.all_eq_true]
    intro y hy
    rw [← h] at hy
    obtain ⟨x, hx, rfl⟩ := List.mem_map.1 hy
    unfold tgtB
    rw [retI_o]
    by_cases h6 : x.o = 6
    · have hn := fenAt_tgt ht hx h6
      have hm : (retI (movAt xs (xs.length + 1)) x).n = ((fenAt xs x.n.toNat).length : Int) := by
        unfold retI
        rw [if_pos h6]
        show (movAt xs (xs.length + 1)).getD x.n.toNat 0 = _
        unfold movAt
        rw [List.getD_eq_getElem?_getD, List.getElem?_map, List.getElem?_range (by omega)]
        rfl
      have hle := fenAt_mono xs x.n.toNat xs.length (by omega)
      have hyl : ys.length = (fenAt xs xs.length).length := by rw [← h]; simp
      rw [hm, hyl]
      simp [h6, inB]
      omega
    · simp [h6]
  · cases h
end Go.Proofs.YtiflooopfpcelacGreatDoor
