/- Contracts of impl.WithFences and its helpers: fences behind stores, targets moved. Condition: the code can be read. -/
import Derived.Test.YtmickgldnfkiiaaDoorS2e
import Derived.Test.YtmickgldnfkiiaaDoorA2
import Derived.Deep.DeepCutAuto
namespace Go.Proofs.YtmickgldnfkiiaaDoor
set_option maxRecDepth 20000
set_option linter.unusedSimpArgs false
set_option linter.unusedVariables false
open Go.ChangeShapes Go.WideShapes Go.ChangeAt Go.RowKit
set_option linter.unusedVariables false
set_option maxHeartbeats 1600000 in
theorem impl_targetsOk (v : Value) (xs : List Ins) (w : World) (h : Rd w v 4 xs.length (flc xs)) :
    Calls Tryd.prog 35 #[v] w fun e w' => e = .returned (.bool (tgtOk xs)) ∧ Below w.heap.size w w' := by
  obtain ⟨A, c, rfl, -, hnc, hc, hr⟩ := h
  unfold maxLen at hc
  go_enter Tryd.func35, Tryd.ntmps35
  go_wp2_with fail
  go_loopw [7] (fun j wr => ∃ k : Nat, k ≤ xs.length ∧ j = .int .i64 k ∧ Hid ((xs.take k).all (tgtB xs.length) = true) ∧ Below w.heap.size w wr) (fun j _ => xs.length - (intOf j).toNat)
  case atStart => exact ⟨0, Nat.zero_le _, rfl, Lib.hid (by simp), Below.refl _ _⟩
  case round =>
    obtain ⟨k, hk, rfl, HT, hB⟩ := hrel
    by_cases hlt : k < xs.length
    · obtain ⟨b, o, rfl, hb, hcell⟩ := hr (by omega)
      obtain ⟨x, hxk, hx0, hx1, hx2, hx3⟩ := ins_at (fun j u hu => (hB.cell (p := ⟨b, o + j, none⟩) hb).trans (hcell j u hu)) hlt
      obtain ⟨xo, xr, xsS, xn⟩ := x
      simp only at hx0 hx1 hx2 hx3
      have k1 := Bk.new wr #[.int .i64 xo, .int .i64 xr, .int .i64 xsS, .int .i64 xn] 44
      have hBa := hB.alloc hB.size (.cells #[.int .i64 xo, .int .i64 xr, .int .i64 xsS, .int .i64 xn] 44)
      have hcase : (xo = 6 ∧ 0 ≤ xn ∧ xn ≤ xs.length) ∨ (xo = 6 ∧ 0 ≤ xn ∧ xs.length < xn) ∨ (xo = 6 ∧ xn < 0) ∨ xo ≠ 6 := by omega
      have htb : tgtB xs.length ⟨xo, xr, xsS, xn⟩ = (!(xo == 6) || inB xn 0 xs.length) := rfl
      clear hcell hr
      rcases hcase with ⟨rfl, h0, h1⟩ | ⟨rfl, h0, h1⟩ | ⟨rfl, h0⟩ | h6
      · have HT' := Lib.hid (allN_snoc HT.out hxk.out (by rw [htb]; simp [inB, h0, h1]))
        clear htb
        go_wp2_with fail
        refine (ins_op ⟨6, xr, xsS, xn⟩ _).mono ?_
        rintro e w1 ⟨rfl, hb1⟩
        have k2 := k1.below hb1 k1.lt
        obtain ⟨hc3, -⟩ := k2.at_ 3 rfl
        go_wp2_with fail
        exact ⟨⟨k + 1, by omega, by go_num, HT', hBa.trans (hb1.mono hBa.size)⟩, by simp [intOf]; omega⟩
      · have HF : Hid (tgtOk xs = false) := Lib.hid (allN_false hxk.out (by rw [htb]; simp [inB]; omega))
        clear htb
        go_wp2_with fail
        refine (ins_op ⟨6, xr, xsS, xn⟩ _).mono ?_
        rintro e w1 ⟨rfl, hb1⟩
        have k2 := k1.below hb1 k1.lt
        obtain ⟨hc3, -⟩ := k2.at_ 3 rfl
        go_wp2_with fail
        go_ret
        exact ⟨ret_bool HF.out.symm, hBa.trans (hb1.mono hBa.size)⟩
      · have HF : Hid (tgtOk xs = false) := Lib.hid (allN_false hxk.out (by rw [htb]; simp [inB]; omega))
        clear htb
        go_wp2_with fail
        refine (ins_op ⟨6, xr, xsS, xn⟩ _).mono ?_
        rintro e w1 ⟨rfl, hb1⟩
        have k2 := k1.below hb1 k1.lt
        obtain ⟨hc3, -⟩ := k2.at_ 3 rfl
        go_wp2_with fail
        go_ret
        exact ⟨ret_bool HF.out.symm, hBa.trans (hb1.mono hBa.size)⟩
      · have hq : (xo == 6) = false := by simp [h6]
        have HT' := Lib.hid (allN_snoc HT.out hxk.out (by rw [htb, hq]; simp))
        clear htb h6
        go_wp2_with fail
        refine (ins_op ⟨xo, xr, xsS, xn⟩ _).mono ?_
        rintro e w1 ⟨rfl, hb1⟩
        go_wp2_with fail
        exact ⟨⟨k + 1, by omega, by go_num, HT', hBa.trans (hb1.mono hBa.size)⟩, by simp [intOf]; omega⟩
    · obtain rfl : k = xs.length := by omega
      have HN := HT.out
      rw [List.take_length] at HN
      have HN : Hid (tgtOk xs = true) := Lib.hid HN
      clear hr
      go_wp2_with fail
      go_ret
      exact ⟨ret_bool HN.out.symm, hB⟩
set_option maxHeartbeats 1600000 in
theorem impl_lacksFence (v : Value) (xs : List Ins) (k : Nat) (w : World) (h : Rd w v 4 xs.length (flc xs)) (hk : k < xs.length) :
    Calls Tryd.prog 36 #[v, .int .i64 k] w fun e w' => e = .returned (.bool (lacksB xs k)) ∧ Below w.heap.size w w' := by
  obtain ⟨A, c, rfl, -, hnc, hc, hr⟩ := h
  unfold maxLen at hc
  obtain ⟨b, o, rfl, hb, hcell⟩ := hr (by omega)
  obtain ⟨x, hxk, hx0, hx1, hx2, hx3⟩ := ins_at hcell hk
  obtain ⟨xo, xr, xsS, xn⟩ := x
  simp only at hx0 hx1 hx2 hx3
  have hlk : lacksB xs k = (xo == 3 && (match xs[k + 1]? with | some y => y.o != 4 | none => true)) := by unfold lacksB; rw [hxk.out]; rfl
  by_cases h3 : xo = 3
  · subst h3
    by_cases hk1 : k + 1 < xs.length
    · obtain ⟨y, hyk, hy0, hy1, hy2, hy3⟩ := ins_at hcell hk1
      have HF : Hid (lacksB xs k = (y.o != 4)) := Lib.hid (by rw [hlk]; simp [hyk.out])
      have hk2 : ((k : Int) + 1 == (xs.length : Int)) = false := by simp; omega
      clear hlk hcell hr
      go_enter Tryd.func36, Tryd.ntmps36
      go_wp2_with fail
      refine (ins_op ⟨3, xr, xsS, xn⟩ _).mono ?_
      rintro e w1 ⟨rfl, hb1⟩
      have hy0' := (hb1.cell (p := ⟨b, o + (k + 1) * 4, none⟩) hb).trans hy0
      have hy1' := (hb1.cell (p := ⟨b, o + (k + 1) * 4 + 1, none⟩) hb).trans hy1
      have hy2' := (hb1.cell (p := ⟨b, o + (k + 1) * 4 + 2, none⟩) hb).trans hy2
      have hy3' := (hb1.cell (p := ⟨b, o + (k + 1) * 4 + 3, none⟩) hb).trans hy3
      go_wp2_with fail
      refine (ins_op y _).mono ?_
      rintro e w2 ⟨rfl, hb2⟩
      go_wp2_with fail
      go_ret
      exact ⟨ret_bool HF.out.symm, hb1.trans (hb2.mono hb1.size)⟩
    · have HF : Hid (lacksB xs k = true) := Lib.hid (by rw [hlk, List.getElem?_eq_none (by omega)]; simp)
      have hk2 : ((k : Int) + 1 == (xs.length : Int)) = true := by simp; omega
      clear hlk hcell hr
      go_enter Tryd.func36, Tryd.ntmps36
      go_wp2_with fail
      refine (ins_op ⟨3, xr, xsS, xn⟩ _).mono ?_
      rintro e w1 ⟨rfl, hb1⟩
      go_wp2_with fail
      go_ret
      exact ⟨ret_bool HF.out.symm, hb1⟩
  · have hq : (xo == 3) = false := by simp [h3]
    have HF : Hid (lacksB xs k = false) := Lib.hid (by rw [hlk, hq]; simp)
    clear hlk hcell hr h3
    go_enter Tryd.func36, Tryd.ntmps36
    go_wp2_with fail
    refine (ins_op ⟨xo, xr, xsS, xn⟩ _).mono ?_
    rintro e w1 ⟨rfl, hb1⟩
    go_wp2_with fail
    go_ret
    exact ⟨ret_bool HF.out.symm, hb1⟩
theorem owns_cap {w : World} {base : Nat} {e : TypeId} {size : Nat} {A : Option Addr} {n m c : Nat} {xs : List Value} (h : w.ownsRow base e size (.slice A m c) n xs) : n ≤ c ∧ c ≤ 9223372036854775807 := by
  obtain ⟨A', c', e1, h1, h2⟩ := owns_slice h
  injection e1 with ea en ec
  subst ec
  exact ⟨h1, h2⟩
set_option maxHeartbeats 1600000 in
theorem impl_retarget (AO AM : Option Addr) (cO cM : Nat) (L : List Ins) (M : List Int) (base : Nat) (w : World) (hO : w.ownsRow base 44 4 (.slice AO L.length cO) L.length (flc L)) (hM : w.ownsRow base 3 1 (.slice AM M.length cM) M.length (ints M))
    (hb : base ≤ w.heap.size) (hL : L.length ≤ 32) (hML : M.length ≤ 32) (hT : Hid (∀ i ∈ L, i.o = 6 → 0 ≤ i.n ∧ i.n < M.length)) :
    Calls Tryd.prog 37 #[.slice AO L.length cO, .slice AM M.length cM] w fun e w' => e = .returned (.tuple #[]) ∧ w'.ownsRow base 44 4 (.slice AO L.length cO) L.length (flc (L.map (retI M))) ∧ Below base w w' := by
  have hcO := owns_cap hO
  have hcM := owns_cap hM
  go_enter Tryd.func37, Tryd.ntmps37
  go_wp2_with fail
  go_loopw [7] (fun j ws => ∃ m : Nat, m ≤ L.length ∧ j = .int .i64 m ∧ ws.ownsRow base 44 4 (.slice AO L.length cO) L.length (flc (retAt M L m)) ∧ ws.ownsRow base 3 1 (.slice AM M.length cM) M.length (ints M) ∧ Below base w ws) (fun j _ => L.length - (intOf j).toNat)
  case atStart => exact ⟨0, Nat.zero_le _, rfl, by rw [retAt_zero]; exact hO, hM, Below.refl _ _⟩
  case round =>
    obtain ⟨m, hm, rfl, hOr, hMr, hBr⟩ := hrel
    clear hO hM
    by_cases hml : m < L.length
    · obtain ⟨g, rfl⟩ := owns_formS hOr (by omega)
      obtain ⟨x, hxm⟩ : ∃ x, L[m]? = some x := ⟨_, List.getElem?_eq_getElem hml⟩
      have hq := retAt_at (M := M) hxm
      have hx0 : wr.cell? ⟨g, m * 4, none⟩ = some (.int .i64 x.o) := (hOr.cellAt (m * 4) (by omega)).trans (flc_at hq 0 (by omega))
      have hx1 : wr.cell? ⟨g, m * 4 + 1, none⟩ = some (.int .i64 x.r) := (hOr.cellAt (m * 4 + 1) (by omega)).trans (flc_at hq 1 (by omega))
      have hx2 : wr.cell? ⟨g, m * 4 + 2, none⟩ = some (.int .i64 x.s) := (hOr.cellAt (m * 4 + 2) (by omega)).trans (flc_at hq 2 (by omega))
      have hx3 : wr.cell? ⟨g, m * 4 + 3, none⟩ = some (.int .i64 x.n) := (hOr.cellAt (m * 4 + 3) (by omega)).trans (flc_at hq 3 (by omega))
      have HXM := Lib.hid hxm
      have gl := (hOr.lt g rfl).2
      clear hxm hq
      obtain ⟨xo, xr, xsS, xn⟩ := x
      simp only at hx0 hx1 hx2 hx3
      by_cases h6 : xo = 6
      · subst h6
        obtain ⟨hn0, hn1⟩ := hT.out ⟨6, xr, xsS, xn⟩ (List.mem_of_getElem? HXM.out) rfl
        simp only at hn0 hn1
        obtain ⟨g2, rfl⟩ := owns_formS hMr (by omega)
        obtain ⟨y, hy⟩ : ∃ y, M[xn.toNat]? = some y := ⟨_, List.getElem?_eq_getElem (by omega)⟩
        have g2l := (hMr.lt g2 rfl).2
        go_wp2_with fail
        refine (ins_op ⟨6, xr, xsS, xn⟩ _).mono ?_
        rintro e w1 ⟨rfl, hb1⟩
        have hO1 := ownsRow_below hOr hb1
        have hM1 := ownsRow_below hMr hb1
        have hx3a := (hb1.cell (p := ⟨g, m * 4 + 3, none⟩) gl).trans hx3
        have hyc : w1.cell? ⟨g2, xn.toNat, none⟩ = some (.int .i64 y) := (hM1.cellAt xn.toNat (by omega)).trans (by simp [ints, hy])
        have hfz := hO1.frozenAt (m * 4 + 3)
        have hst := hO1.stored (m * 4 + 3) (.int .i64 y)
        have HR := Lib.hid (retAt_snoc (M := M) HXM.out)
        have HQ := Lib.hid (retAt_at (M := M) HXM.out)
        have HRI : Hid (retI M ⟨6, xr, xsS, xn⟩ = ⟨6, xr, xsS, y⟩) := Lib.hid (by simp [retI, hy])
        clear hy hx0 hx1 hx2 hx3
        have hO3 : (w1.setCell ⟨g, m * 4 + 3, none⟩ (.int .i64 y)).ownsRow base 44 4 (.slice (some ⟨g, 0, none⟩) L.length cO) L.length (flc (retAt M L (m + 1))) := by
          rw [HR.out, HRI.out, ← flc_set HQ.out]
          exact hst.1
        have hM3 := hM1.kept hst.2 (own_ne hM1 hO1 (by decide))
        have hB2 := hBr.trans (hb1.mono (Nat.le_trans hb hBr.size))
        have hB3 := hB2.setCell (p := ⟨g, m * 4 + 3, none⟩) (hOr.lt g rfl).1 (.int .i64 y)
        clear hst
        go_wp2_with fail
        exact ⟨⟨m + 1, by omega, by go_num, hO3, hM3, hB3⟩, by simp [intOf]; omega⟩
      · have hq6 : (xo == 6) = false := by simp [h6]
        have HR := Lib.hid (retAt_keep (M := M) HXM.out h6)
        clear h6
        go_wp2_with fail
        refine (ins_op ⟨xo, xr, xsS, xn⟩ _).mono ?_
        rintro e w1 ⟨rfl, hb1⟩
        have hO1 := ownsRow_below hOr hb1
        have hM1 := ownsRow_below hMr hb1
        have hB2 := hBr.trans (hb1.mono (Nat.le_trans hb hBr.size))
        clear hx0 hx1 hx2 hx3
        go_wp2_with fail
        exact ⟨⟨m + 1, by omega, by go_num, by rw [HR.out]; exact hO1, hM1, hB2⟩, by simp [intOf]; omega⟩
    · obtain rfl : m = L.length := by omega
      rw [retAt_all] at hOr
      go_wp2_with fail
      exact bodyPost_end (results_none rfl _ _ _) rfl ⟨rfl, hOr, hBr⟩
def movPart (xs : List Ins) (k : Nat) : List Int := movAt xs k ++ List.replicate (xs.length + 1 - k) 0
theorem movPart_zero (xs : List Ins) : List.replicate (xs.length + 1) (Value.int .i64 0) = ints (movPart xs 0) := by simp [movPart, movAt, ints]
theorem movPart_len (xs : List Ins) {k : Nat} (h : k ≤ xs.length + 1) : (movPart xs k).length = xs.length + 1 := by simp [movPart, movAt_len]; omega
theorem movPart_all (xs : List Ins) : movPart xs (xs.length + 1) = movAt xs (xs.length + 1) := by simp [movPart]
theorem movPart_set (xs : List Ins) {k : Nat} (h : k < xs.length + 1) : (movPart xs k).set k ((fenAt xs k).length : Int) = movPart xs (k + 1) := by
  unfold movPart
  rw [List.set_append_right _ _ (by rw [movAt_len]; omega), movAt_len, Nat.sub_self, movAt_snoc, List.append_assoc]
  congr 1
  obtain ⟨d, hd⟩ : ∃ d, xs.length + 1 - k = d + 1 := ⟨xs.length - k, by omega⟩
  rw [hd, show xs.length + 1 - (k + 1) = d by omega, List.replicate_succ, List.set_cons_zero]
  rfl
theorem movAt_entry (xs : List Ins) : ∀ i ∈ fenAt xs xs.length, True := fun _ _ => trivial
set_option maxHeartbeats 6400000 in
theorem impl_WithFences (v : Value) (xs : List Ins) (w : World) (h : Rd w v 4 xs.length (flc xs)) :
    Calls Tryd.prog 17 #[v] w (RetCodeB ((wfF xs).getD []) (wfF xs).isSome w) := by
  obtain ⟨A, c, rfl, -, hnc, hc, hr⟩ := id h
  have HH := Lib.hid h
  clear h
  unfold maxLen at hc
  obtain ⟨i, hi, hiz0, hiz1, hiz2⟩ := info_parts infoInt
  obtain ⟨s, hs, hsz0, hsz1, hsz2⟩ := info_parts infoIns
  by_cases hlen : xs.length ≤ 16
  · have hT := impl_targetsOk _ xs w HH.out
    cases htg : tgtOk xs
    · have HF : Hid (wfF xs = none) := Lib.hid (by simp [wfF, htg])
      rw [htg] at hT
      have HT := Lib.hid hT
      clear hT htg hr
      go_enter Tryd.func17, Tryd.ntmps17
      go_wp2_with fail
      refine HT.out.mono ?_
      rintro e w1 ⟨rfl, hb1⟩
      go_wp2_with fail
      exact bodyPost_ret (v := .tuple #[.slice none 0 0, .bool false]) (by simp [results, Tryd.results17, go_sem]) rfl ⟨_, [], by rw [HF.out]; rfl, by rw [HF.out]; exact Own.nil _ _, by simp, hb1⟩
    · rw [htg] at hT
      have HT := Lib.hid hT
      have HG := Lib.hid htg
      clear hT htg
      go_enter Tryd.func17, Tryd.ntmps17
      go_wp2_with fail
      refine HT.out.mono ?_
      rintro e w0 ⟨rfl, hB0⟩
      go_wp2_with (at_make; refine wpList_make_full _ rfl _ _ 67 rfl w.heap.size 3 i (.int .i64 0) 1 Tryd.underlying67 hi hiz0 hiz1 _ _ _ _ (xs.length + 1) rfl rfl (by simp) (by simp) (by rw [hiz2]; omega) (by unfold maxLen; omega) hB0.size ?_)
      intro w1 hown hg1
      have hM0 : w1.ownsRow w.heap.size 3 1 (.slice (some ⟨w0.heap.size, 0, none⟩) (xs.length + 1) (xs.length + 1)) (xs.length + 1) (ints (movPart xs 0)) := by
        rw [← movPart_zero]
        simpa [toList_madeCells_one, Value.cells] using hown
      have hB1 : Below w.heap.size w w1 := hB0.grown hg1 hB0.size (by simp)
      clear hown hg1
      go_wp2_with fail
      go_loopw [4, 22] (fun vo j wr => ∃ (k : Nat) (L : List Ins), k ≤ xs.length ∧ j = .int .i64 k ∧ L.length ≤ 2 * k ∧ Hid (L = fenAt xs k) ∧ wr.ownsRow w.heap.size 44 4 vo L.length (flc L) ∧
        wr.ownsRow w.heap.size 3 1 (.slice (some ⟨w0.heap.size, 0, none⟩) (xs.length + 1) (xs.length + 1)) (xs.length + 1) (ints (movPart xs k)) ∧ Below w.heap.size w wr) (fun _ j _ => xs.length - (intOf j).toNat)
      case atStart => exact ⟨0, [], Nat.zero_le _, rfl, Nat.le_refl _, Lib.hid rfl, ⟨rfl, .inl ⟨rfl, rfl⟩⟩, hM0, hB1⟩
      case round =>
        obtain ⟨k, L, hk, rfl, hL, HL, hO, hM, hB⟩ := hrel
        clear hM0 hB1
        obtain ⟨AO, cO, rfl, hcO, hcOm⟩ := owns_slice hO
        by_cases hlt : k < xs.length
        · obtain ⟨b, o, rfl, hb, hcell⟩ := hr (by omega)
          obtain ⟨x, hxk, hx0, hx1, hx2, hx3⟩ := ins_at (fun j u hu => (hB.cell (p := ⟨b, o + j, none⟩) hb).trans (hcell j u hu)) hlt
          have HS := Lib.hid (fenAt_snoc hxk.out)
          obtain ⟨xo, xr, xsS, xn⟩ := x
          simp only at hx0 hx1 hx2 hx3
          clear hcell hr
          have hcm0 : wr.cell? ⟨w0.heap.size, k, none⟩ = some (.int .i64 ((movPart xs k).getD k 0)) := (hM.cellAt k (by omega)).trans (ints_at (by rw [movPart_len xs (by omega)]; omega))
          have hfz := hM.frozenAt k
          have hml := hM.lt w0.heap.size rfl
          obtain ⟨mk, hmk⟩ : ∃ mk, (movPart xs k).getD k 0 = mk := ⟨_, rfl⟩
          rw [hmk] at hcm0
          clear hmk
          -- the store into moved, and the new variable 'in'
          have hst := hM.stored k (.int .i64 L.length)
          have hms : Hid ((ints (movPart xs k)).set k (.int .i64 L.length) = ints (movPart xs (k + 1))) := Lib.hid (by rw [ints_set, HL.out, movPart_set xs (by omega)])
          have hM1 := hst.1.alloc (.cells #[.int .i64 xo, .int .i64 xr, .int .i64 xsS, .int .i64 xn] 44)
          rw [hms.out] at hM1
          have hO1 := (hO.kept hst.2 (own_ne hO hM (by decide))).alloc (.cells #[.int .i64 xo, .int .i64 xr, .int .i64 xsS, .int .i64 xn] 44)
          have hB1 := hB.setCell (p := ⟨w0.heap.size, k, none⟩) hml.1 (.int .i64 L.length)
          have hB2 := hB1.alloc hB1.size (.cells #[.int .i64 xo, .int .i64 xr, .int .i64 xsS, .int .i64 xn] 44)
          have k2 := Bk.new (wr.setCell ⟨w0.heap.size, k, none⟩ (.int .i64 L.length)) #[.int .i64 xo, .int .i64 xr, .int .i64 xsS, .int .i64 xn] 44
          have hse : (wr.setCell ⟨w0.heap.size, k, none⟩ (.int .i64 L.length)).heap.size = wr.heap.size := by simp
          rw [hse] at k2
          obtain ⟨wv, hwv⟩ : ∃ wv, (wr.setCell ⟨w0.heap.size, k, none⟩ (.int .i64 L.length)).alloc (.cells #[.int .i64 xo, .int .i64 xr, .int .i64 xsS, .int .i64 xn] 44) = wv := ⟨_, rfl⟩
          rw [hwv] at hO1 hM1 hB2 k2
          have HWV := Lib.hid hwv
          have k2l := k2.lt
          obtain ⟨hk0, -⟩ := k2.at_ 0 rfl
          obtain ⟨hk1, -⟩ := k2.at_ 1 rfl
          obtain ⟨hk2, -⟩ := k2.at_ 2 rfl
          obtain ⟨hk3, -⟩ := k2.at_ 3 rfl
          clear hst hwv hO hM hse hB1
          go_upto_region 9 with (fail)
          rw [HWV.out]
          have hL32 : L.length ≤ 32 := by omega
          go_wp2_with (at_builtin; refine wpList_append_own _ rfl _ _ 38 rfl (w.heap.size) 44 s (.agg #[.int .i64 0, .int .i64 0, .int .i64 0, .int .i64 0]) 4 32 Tryd.underlying38 hs hsz0 hsz1 hsz2 rfl (by decide) _ _ _ rfl (hO1.alloc _) ⟨wv.heap.size, 0, none⟩ 1 1 [.int .i64 xo, .int .i64 xr, .int .i64 xsS, .int .i64 xn] rfl rfl (new_cells _ _ _) (by simp [Value.oneCell']) (by unfold maxLen; omega) (by omega) (by have := hB2.size; simp; omega) ?_)
          intro vo3 w3 ho3 hg3 _
          have hB3 := (hB2.alloc hB2.size _).grown hg3 (by have := hB2.size; simp; omega) (fun k hk => by have := (hO1.lt k hk).1; omega)
          have hO3 := owns_snocI (x := ⟨xo, xr, xsS, xn⟩) ho3
          have hM3 := (hM1.alloc (.cells #[.int .i64 xo, .int .i64 xr, .int .i64 xsS, .int .i64 xn] 44)).kept hg3 (own_ne (hM1.alloc (.cells #[.int .i64 xo, .int .i64 xr, .int .i64 xsS, .int .i64 xn] 44)) (hO1.alloc (.cells #[.int .i64 xo, .int .i64 xr, .int .i64 xsS, .int .i64 xn] 44)) (by decide))
          have HR3 : Rd w3 _ 4 xs.length (flc xs) := HH.out.below hB3
          have hl3 : (L ++ [(⟨xo, xr, xsS, xn⟩ : Ins)]).length ≤ 2 * k + 1 := by simp; omega
          obtain ⟨L1, hL1⟩ : ∃ L1, L ++ [(⟨xo, xr, xsS, xn⟩ : Ins)] = L1 := ⟨_, rfl⟩
          rw [hL1] at hO3 hl3
          have HL1 := Lib.hid hL1
          clear hL1 hk0 hk1 hk2 hk3 hx0 hx1 hx2 hx3 ho3 hcm0 hfz hO1 hM1 hg3
          cases hlk : lacksB xs k
          · have HLK := Lib.hid hlk
            have hC := fun (W : World) (h : Rd W (.slice (some ⟨b, o, none⟩) xs.length c) 4 xs.length (flc xs)) => impl_lacksFence _ xs k W h hlt
            rw [hlk] at hC
            have HK := Lib.hid hC
            clear hC hlk
            go_wp2_with fail
            refine (HK.out _ HR3).mono ?_
            rintro e w4 ⟨rfl, hb4⟩
            have hO4 := ownsRow_below hO3 hb4
            have hM4 := ownsRow_below hM3 hb4
            have hB4 := hB3.trans (hb4.mono hB3.size)
            go_wp2_with fail
            exact ⟨⟨k + 1, L1, by omega, by go_num, by omega, Lib.hid (by rw [HS.out, HLK.out, ← HL1.out, HL.out]; simp), hO4, hM4, hB4⟩, by simp [intOf]; omega⟩
          · have HLK := Lib.hid hlk
            have hC := fun (W : World) (h : Rd W (.slice (some ⟨b, o, none⟩) xs.length c) 4 xs.length (flc xs)) => impl_lacksFence _ xs k W h hlt
            rw [hlk] at hC
            have HK := Lib.hid hC
            clear hC hlk
            go_wp2_with fail
            refine (HK.out _ HR3).mono ?_
            rintro e w4 ⟨rfl, hb4⟩
            have hO4 := ownsRow_below hO3 hb4
            have hM4 := ownsRow_below hM3 hb4
            have hB4 := hB3.trans (hb4.mono hB3.size)
            go_wp2_with (at_builtin; refine wpList_append_own _ rfl _ _ 38 rfl (w.heap.size) 44 s (.agg #[.int .i64 0, .int .i64 0, .int .i64 0, .int .i64 0]) 4 32 Tryd.underlying38 hs hsz0 hsz1 hsz2 rfl (by decide) _ _ _ rfl (hO4.alloc _) ⟨w4.heap.size, 0, none⟩ 1 1 [.int .i64 4, .int .i64 0, .int .i64 0, .int .i64 0] rfl rfl (new_cells _ _ _) (by simp [Value.oneCell']) (by unfold maxLen; omega) (by omega) (by have := hB4.size; simp; omega) ?_)
            intro vo5 w5 ho5 hg5 _
            have hB5 := (hB4.alloc hB4.size _).grown hg5 (by have := hB4.size; simp; omega) (fun k hk => by have := (hO4.lt k hk).1; omega)
            have hO5 := owns_snocI (x := fenceI) ho5
            have hM5 := (hM4.alloc (.cells #[.int .i64 4, .int .i64 0, .int .i64 0, .int .i64 0] 44)).kept hg5 (own_ne (hM4.alloc (.cells #[.int .i64 4, .int .i64 0, .int .i64 0, .int .i64 0] 44)) (hO4.alloc (.cells #[.int .i64 4, .int .i64 0, .int .i64 0, .int .i64 0] 44)) (by decide))
            go_wp2_with fail
            exact ⟨⟨k + 1, L1 ++ [fenceI], by omega, by go_num, by simp; omega, Lib.hid (by rw [HS.out, HLK.out, ← HL1.out, HL.out]; rfl), hO5, hM5, hB5⟩, by simp [intOf]; omega⟩
        · obtain rfl : k = xs.length := by omega
          have hcm0 : wr.cell? ⟨w0.heap.size, xs.length, none⟩ = some (.int .i64 ((movPart xs xs.length).getD xs.length 0)) := (hM.cellAt xs.length (by omega)).trans (ints_at (by rw [movPart_len xs (by omega)]; omega))
          have hfz := hM.frozenAt xs.length
          have hml := hM.lt w0.heap.size rfl
          obtain ⟨mk, hmk⟩ : ∃ mk, (movPart xs xs.length).getD xs.length 0 = mk := ⟨_, rfl⟩
          rw [hmk] at hcm0
          have hst := hM.stored xs.length (.int .i64 L.length)
          have hms : Hid ((ints (movPart xs xs.length)).set xs.length (.int .i64 L.length) = ints (movAt xs (xs.length + 1))) := Lib.hid (by rw [ints_set, HL.out, movPart_set xs (by omega), movPart_all])
          have hM1 := hst.1
          rw [hms.out] at hM1
          have hO1 := hO.kept hst.2 (own_ne hO hM (by decide))
          have hB2 := hB.setCell (p := ⟨w0.heap.size, xs.length, none⟩) hml.1 (.int .i64 L.length)
          obtain ⟨wv, hwv⟩ : ∃ wv, wr.setCell ⟨w0.heap.size, xs.length, none⟩ (.int .i64 L.length) = wv := ⟨_, rfl⟩
          rw [hwv] at hO1 hM1 hB2
          have HWV := Lib.hid hwv
          obtain ⟨M1, hM1e⟩ : ∃ M1, movAt xs (xs.length + 1) = M1 := ⟨_, rfl⟩
          have hMl : M1.length = xs.length + 1 := by rw [← hM1e, movAt_len]
          rw [hM1e] at hM1
          have HM1 := Lib.hid hM1e
          have HMl := Lib.hid hMl
          clear hmk hst hwv hO hM hr hM1e hMl
          go_upto_region 14 with (fail)
          rw [HWV.out]
          by_cases hbig : L.length ≤ 16
          · have HF : Hid (wfF xs = some (L.map (retI M1))) := Lib.hid (by
              unfold wfF
              rw [HL.out] at hbig ⊢
              rw [if_pos ⟨hlen, HG.out, hbig⟩, HM1.out])
            have hM2 := hM1
            rw [← HMl.out] at hM2
            have hR := impl_retarget _ _ _ _ L M1 _ wv hO1 hM2 hB2.size (by omega) (by rw [HMl.out]; omega) (Lib.hid fun i hi h6 => by
              obtain ⟨h1, h2⟩ := fenAt_tgt HG.out (k := xs.length) (i := i) (by rw [← HL.out]; exact hi) h6
              rw [HMl.out]
              exact ⟨h1, by push_cast; omega⟩)
            rw [HMl.out] at hR
            have HR := Lib.hid hR
            clear hR hM2 hcm0 hfz
            go_wp2_with fail
            refine HR.out.mono ?_
            rintro e w2 ⟨rfl, hO2, hb2⟩
            obtain ⟨bs, h1, h2⟩ := Own.of_owns hO2
            go_wp2_with fail
            exact bodyPost_ret (v := .tuple #[.slice AO L.length cO, .bool true]) (by simp [results, Tryd.results17, go_sem]) rfl ⟨_, bs, by rw [HF.out]; rfl, by rw [HF.out]; simpa using h1, h2, hB2.trans hb2⟩
          · have HF : Hid (wfF xs = none) := Lib.hid (by
              unfold wfF
              rw [HL.out] at hbig
              rw [if_neg (fun h => hbig h.2.2)])
            clear hcm0 hfz
            go_wp2_with fail
            exact bodyPost_ret (v := .tuple #[.slice none 0 0, .bool false]) (by simp [results, Tryd.results17, go_sem]) rfl ⟨_, [], by rw [HF.out]; rfl, by rw [HF.out]; exact Own.nil _ _, by simp, hB2⟩
  · have HF : Hid (wfF xs = none) := Lib.hid (by simp [wfF, hlen])
    clear hr
    go_enter Tryd.func17, Tryd.ntmps17
    go_wp2_with fail
    exact bodyPost_ret (v := .tuple #[.slice none 0 0, .bool false]) (by simp [results, Tryd.results17, go_sem]) rfl ⟨_, [], by rw [HF.out]; rfl, by rw [HF.out]; exact Own.nil _ _, by simp, Below.refl _ _⟩
theorem wfF_len (xs : List Ins) : ((wfF xs).getD []).length ≤ 16 := by
  unfold wfF
  split
  · rename_i h
    simpa using h.2.2
  · simp
end Go.Proofs.YtmickgldnfkiiaaDoor
