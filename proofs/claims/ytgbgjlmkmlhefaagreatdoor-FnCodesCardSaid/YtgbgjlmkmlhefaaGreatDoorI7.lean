/- Contracts of impl.WithFences and its helpers: fences behind stores, targets moved. Condition: the code can be read. -/
import Derived.Test.YtgbgjlmkmlhefaaGreatDoorS2e
import Derived.Test.YtgbgjlmkmlhefaaGreatDoorV12
import Derived.Test.YtgbgjlmkmlhefaaGreatDoorRdap
import Derived.Deep.DeepCutAuto
import Derived.Deep.RegionHeld3
import Derived.Shelf.Abstract
namespace Go.Proofs.YtgbgjlmkmlhefaaGreatDoor
set_option maxRecDepth 20000
set_option linter.unusedSimpArgs false
set_option linter.unusedVariables false
open Go.ChangeShapes Go.WideShapes Go.ChangeAt Go.RowKit
set_option linter.unusedVariables false
set_option maxHeartbeats 1600000 in
theorem impl_targetsOk (v : Value) (xs : List Ins) (w : World) (h : Rd w v 4 xs.length (flc xs)) :
    Calls Tryz.prog 32 #[v] w fun e w' => e = .returned (.bool (tgtOk xs)) ∧ Below w.heap.size w w' := by
  obtain ⟨A, c, rfl, -, hnc, hc, hr⟩ := h
  unfold maxLen at hc
  go_enter Tryz.func32, Tryz.ntmps32
  go_wp2_with fail
  go_loopw [7] (fun j wr => ∃ k : Nat, k ≤ xs.length ∧ j = .int .i64 k ∧ Hid ((xs.take k).all (tgtB xs.length) = true) ∧ Below w.heap.size w wr) (fun j _ => xs.length - (intOf j).toNat)
  case atStart => exact ⟨0, Nat.zero_le _, rfl, Lib.hid (by simp), Below.refl _ _⟩
  case round =>
    obtain ⟨k, hk, rfl, HT, hB⟩ := hrel
    by_cases hlt : k < xs.length
    · obtain ⟨b, o, rfl, hb, hcell⟩ := hr (by omega)
      obtain ⟨x, hxk, hx0, hx1, hx2, hx3⟩ := ins_at (fun j u hu => (hB.cell (p := ⟨b, o + j, none⟩) hb).trans (hcell j u hu)) hlt
      obtain ⟨xo, xr, xsS, xn⟩ := x
      simp only at hx0 hx1 hx2 hx3
      have k1 := Bk.new wr #[.int .i64 xo, .int .i64 xr, .int .i64 xsS, .int .i64 xn] 37
      have hBa := hB.alloc hB.size (.cells #[.int .i64 xo, .int .i64 xr, .int .i64 xsS, .int .i64 xn] 37)
      have hcase : (xo = 6 ∧ 0 ≤ xn ∧ xn ≤ xs.length) ∨ (xo = 6 ∧ 0 ≤ xn ∧ xs.length < xn) ∨ (xo = 6 ∧ xn < 0) ∨ xo ≠ 6 := by omega
      have htb : tgtB xs.length ⟨xo, xr, xsS, xn⟩ = (!(xo == 6) || inB xn 0 xs.length) := rfl
      clear hcell hr
      rcases hcase with ⟨rfl, h0, h1⟩ | ⟨rfl, h0, h1⟩ | ⟨rfl, h0⟩ | h6
      · have HT' := Lib.hid (allN_snoc HT.out hxk.out (by rw [htb]; simp [inB, h0, h1]))
        clear htb
        go_wp2_with fail
        refine (ins_op ⟨6, xr, xsS, xn⟩ _).mono ?_
        rintro e w1 ⟨rfl, hb1⟩
        have k2 := k1.below hb1 k1.lt
        obtain ⟨hc3, -⟩ := k2.at_ 3 rfl
        go_wp2_with fail
        exact ⟨⟨k + 1, by omega, by go_num, HT', hBa.trans (hb1.mono hBa.size)⟩, by simp [intOf]; omega⟩
      · have HF : Hid (tgtOk xs = false) := Lib.hid (allN_false hxk.out (by rw [htb]; simp [inB]; omega))
        clear htb
        go_wp2_with fail
        refine (ins_op ⟨6, xr, xsS, xn⟩ _).mono ?_
        rintro e w1 ⟨rfl, hb1⟩
        have k2 := k1.below hb1 k1.lt
        obtain ⟨hc3, -⟩ := k2.at_ 3 rfl
        go_wp2_with fail
        go_ret
        exact ⟨ret_bool HF.out.symm, hBa.trans (hb1.mono hBa.size)⟩
      · have HF : Hid (tgtOk xs = false) := Lib.hid (allN_false hxk.out (by rw [htb]; simp [inB]; omega))
        clear htb
        go_wp2_with fail
        refine (ins_op ⟨6, xr, xsS, xn⟩ _).mono ?_
        rintro e w1 ⟨rfl, hb1⟩
        have k2 := k1.below hb1 k1.lt
        obtain ⟨hc3, -⟩ := k2.at_ 3 rfl
        go_wp2_with fail
        go_ret
        exact ⟨ret_bool HF.out.symm, hBa.trans (hb1.mono hBa.size)⟩
      · have hq : (xo == 6) = false := by simp [h6]
        have HT' := Lib.hid (allN_snoc HT.out hxk.out (by rw [htb, hq]; simp))
        clear htb h6
        go_wp2_with fail
        refine (ins_op ⟨xo, xr, xsS, xn⟩ _).mono ?_
        rintro e w1 ⟨rfl, hb1⟩
        go_wp2_with fail
        exact ⟨⟨k + 1, by omega, by go_num, HT', hBa.trans (hb1.mono hBa.size)⟩, by simp [intOf]; omega⟩
    · obtain rfl : k = xs.length := by omega
      have HN := HT.out
      rw [List.take_length] at HN
      have HN : Hid (tgtOk xs = true) := Lib.hid HN
      clear hr
      go_wp2_with fail
      go_ret
      exact ⟨ret_bool HN.out.symm, hB⟩
set_option maxHeartbeats 1600000 in
theorem impl_lacksFence (v : Value) (xs : List Ins) (k : Nat) (w : World) (h : Rd w v 4 xs.length (flc xs)) (hk : k < xs.length) :
    Calls Tryz.prog 35 #[v, .int .i64 k] w fun e w' => e = .returned (.bool (lacksB xs k)) ∧ Below w.heap.size w w' := by
  obtain ⟨A, c, rfl, -, hnc, hc, hr⟩ := h
  unfold maxLen at hc
  obtain ⟨b, o, rfl, hb, hcell⟩ := hr (by omega)
  obtain ⟨x, hxk, hx0, hx1, hx2, hx3⟩ := ins_at hcell hk
  obtain ⟨xo, xr, xsS, xn⟩ := x
  simp only at hx0 hx1 hx2 hx3
  have hlk : lacksB xs k = (xo == 3 && (match xs[k + 1]? with | some y => y.o != 4 | none => true)) := by unfold lacksB; rw [hxk.out]; rfl
  by_cases h3 : xo = 3
  · subst h3
    by_cases hk1 : k + 1 < xs.length
    · obtain ⟨y, hyk, hy0, hy1, hy2, hy3⟩ := ins_at hcell hk1
      have HF : Hid (lacksB xs k = (y.o != 4)) := Lib.hid (by rw [hlk]; simp [hyk.out])
      have hk2 : ((k : Int) + 1 == (xs.length : Int)) = false := by simp; omega
      clear hlk hcell hr
      go_enter Tryz.func35, Tryz.ntmps35
      go_wp2_with fail
      refine (ins_op ⟨3, xr, xsS, xn⟩ _).mono ?_
      rintro e w1 ⟨rfl, hb1⟩
      have hy0' := (hb1.cell (p := ⟨b, o + (k + 1) * 4, none⟩) hb).trans hy0
      have hy1' := (hb1.cell (p := ⟨b, o + (k + 1) * 4 + 1, none⟩) hb).trans hy1
      have hy2' := (hb1.cell (p := ⟨b, o + (k + 1) * 4 + 2, none⟩) hb).trans hy2
      have hy3' := (hb1.cell (p := ⟨b, o + (k + 1) * 4 + 3, none⟩) hb).trans hy3
      go_wp2_with fail
      refine (ins_op y _).mono ?_
      rintro e w2 ⟨rfl, hb2⟩
      go_wp2_with fail
      go_ret
      exact ⟨ret_bool HF.out.symm, hb1.trans (hb2.mono hb1.size)⟩
    · have HF : Hid (lacksB xs k = true) := Lib.hid (by rw [hlk, List.getElem?_eq_none (by omega)]; simp)
      have hk2 : ((k : Int) + 1 == (xs.length : Int)) = true := by simp; omega
      clear hlk hcell hr
      go_enter Tryz.func35, Tryz.ntmps35
      go_wp2_with fail
      refine (ins_op ⟨3, xr, xsS, xn⟩ _).mono ?_
      rintro e w1 ⟨rfl, hb1⟩
      go_wp2_with fail
      go_ret
      exact ⟨ret_bool HF.out.symm, hb1⟩
  · have hq : (xo == 3) = false := by simp [h3]
    have HF : Hid (lacksB xs k = false) := Lib.hid (by rw [hlk, hq]; simp)
    clear hlk hcell hr h3
    go_enter Tryz.func35, Tryz.ntmps35
    go_wp2_with fail
    refine (ins_op ⟨xo, xr, xsS, xn⟩ _).mono ?_
    rintro e w1 ⟨rfl, hb1⟩
    go_wp2_with fail
    go_ret
    exact ⟨ret_bool HF.out.symm, hb1⟩
theorem owns_cap {w : World} {base : Nat} {e : TypeId} {size : Nat} {A : Option Addr} {n m c : Nat} {xs : List Value} (h : w.ownsRow base e size (.slice A m c) n xs) : n ≤ c ∧ c ≤ 9223372036854775807 := by
  obtain ⟨A', c', e1, h1, h2⟩ := owns_slice h
  injection e1 with ea en ec
  subst ec
  exact ⟨h1, h2⟩
set_option maxHeartbeats 1600000 in
theorem impl_retarget (AO AM : Option Addr) (cO cM : Nat) (L : List Ins) (M : List Int) (base : Nat) (w : World) (hO : w.ownsRow base 37 4 (.slice AO L.length cO) L.length (flc L)) (hM : w.ownsRow base 3 1 (.slice AM M.length cM) M.length (ints M))
    (hb : base ≤ w.heap.size) (hL : L.length ≤ 64) (hML : M.length ≤ 64) (hT : Hid (∀ i ∈ L, i.o = 6 → 0 ≤ i.n ∧ i.n < M.length)) :
    Calls Tryz.prog 63 #[.slice AO L.length cO, .slice AM M.length cM] w fun e w' => e = .returned (.tuple #[]) ∧ w'.ownsRow base 37 4 (.slice AO L.length cO) L.length (flc (L.map (retI M))) ∧ Below base w w' := by
  have hcO := owns_cap hO
  have hcM := owns_cap hM
  go_enter Tryz.func63, Tryz.ntmps63
  go_wp2_with fail
  go_loopw [7] (fun j ws => ∃ m : Nat, m ≤ L.length ∧ j = .int .i64 m ∧ ws.ownsRow base 37 4 (.slice AO L.length cO) L.length (flc (retAt M L m)) ∧ ws.ownsRow base 3 1 (.slice AM M.length cM) M.length (ints M) ∧ Below base w ws) (fun j _ => L.length - (intOf j).toNat)
  case atStart => exact ⟨0, Nat.zero_le _, rfl, by rw [retAt_zero]; exact hO, hM, Below.refl _ _⟩
  case round =>
    obtain ⟨m, hm, rfl, hOr, hMr, hBr⟩ := hrel
    clear hO hM
    by_cases hml : m < L.length
    · obtain ⟨g, rfl⟩ := owns_formS hOr (by omega)
      obtain ⟨x, hxm⟩ : ∃ x, L[m]? = some x := ⟨_, List.getElem?_eq_getElem hml⟩
      have hq := retAt_at (M := M) hxm
      have hx0 : wr.cell? ⟨g, m * 4, none⟩ = some (.int .i64 x.o) := (hOr.cellAt (m * 4) (by omega)).trans (flc_at hq 0 (by omega))
      have hx1 : wr.cell? ⟨g, m * 4 + 1, none⟩ = some (.int .i64 x.r) := (hOr.cellAt (m * 4 + 1) (by omega)).trans (flc_at hq 1 (by omega))
      have hx2 : wr.cell? ⟨g, m * 4 + 2, none⟩ = some (.int .i64 x.s) := (hOr.cellAt (m * 4 + 2) (by omega)).trans (flc_at hq 2 (by omega))
      have hx3 : wr.cell? ⟨g, m * 4 + 3, none⟩ = some (.int .i64 x.n) := (hOr.cellAt (m * 4 + 3) (by omega)).trans (flc_at hq 3 (by omega))
      have HXM := Lib.hid hxm
      have gl := (hOr.lt g rfl).2
      clear hxm hq
      obtain ⟨xo, xr, xsS, xn⟩ := x
      simp only at hx0 hx1 hx2 hx3
      by_cases h6 : xo = 6
      · subst h6
        obtain ⟨hn0, hn1⟩ := hT.out ⟨6, xr, xsS, xn⟩ (List.mem_of_getElem? HXM.out) rfl
        simp only at hn0 hn1
        obtain ⟨g2, rfl⟩ := owns_formS hMr (by omega)
        obtain ⟨y, hy⟩ : ∃ y, M[xn.toNat]? = some y := ⟨_, List.getElem?_eq_getElem (by omega)⟩
        have g2l := (hMr.lt g2 rfl).2
        go_wp2_with fail
        refine (ins_op ⟨6, xr, xsS, xn⟩ _).mono ?_
        rintro e w1 ⟨rfl, hb1⟩
        have hO1 := ownsRow_below hOr hb1
        have hM1 := ownsRow_below hMr hb1
        have hx3a := (hb1.cell (p := ⟨g, m * 4 + 3, none⟩) gl).trans hx3
        have hyc : w1.cell? ⟨g2, xn.toNat, none⟩ = some (.int .i64 y) := (hM1.cellAt xn.toNat (by omega)).trans (by simp [ints, hy])
        have hfz := hO1.frozenAt (m * 4 + 3)
        have hst := hO1.stored (m * 4 + 3) (.int .i64 y)
        have HR := Lib.hid (retAt_snoc (M := M) HXM.out)
        have HQ := Lib.hid (retAt_at (M := M) HXM.out)
        have HRI : Hid (retI M ⟨6, xr, xsS, xn⟩ = ⟨6, xr, xsS, y⟩) := Lib.hid (by simp [retI, hy])
        clear hy hx0 hx1 hx2 hx3
        have hO3 : (w1.setCell ⟨g, m * 4 + 3, none⟩ (.int .i64 y)).ownsRow base 37 4 (.slice (some ⟨g, 0, none⟩) L.length cO) L.length (flc (retAt M L (m + 1))) := by
          rw [HR.out, HRI.out, ← flc_set HQ.out]
          exact hst.1
        have hM3 := hM1.kept hst.2 (own_ne hM1 hO1 (by decide))
        have hB2 := hBr.trans (hb1.mono (Nat.le_trans hb hBr.size))
        have hB3 := hB2.setCell (p := ⟨g, m * 4 + 3, none⟩) (hOr.lt g rfl).1 (.int .i64 y)
        clear hst
        go_wp2_with fail
        exact ⟨⟨m + 1, by omega, by go_num, hO3, hM3, hB3⟩, by simp [intOf]; omega⟩
      · have hq6 : (xo == 6) = false := by simp [h6]
        have HR := Lib.hid (retAt_keep (M := M) HXM.out h6)
        clear h6
        go_wp2_with fail
        refine (ins_op ⟨xo, xr, xsS, xn⟩ _).mono ?_
        rintro e w1 ⟨rfl, hb1⟩
        have hO1 := ownsRow_below hOr hb1
        have hM1 := ownsRow_below hMr hb1
        have hB2 := hBr.trans (hb1.mono (Nat.le_trans hb hBr.size))
        clear hx0 hx1 hx2 hx3
        go_wp2_with fail
        exact ⟨⟨m + 1, by omega, by go_num, by rw [HR.out]; exact hO1, hM1, hB2⟩, by simp [intOf]; omega⟩
    · obtain rfl : m = L.length := by omega
      rw [retAt_all] at hOr
      go_wp2_with fail
      exact bodyPost_end (results_none rfl _ _ _) rfl ⟨rfl, hOr, hBr⟩
set_option maxHeartbeats 400000 in
theorem impl_newFence (w : World) : Calls Tryz.prog 36 #[] w fun e w' => e = .returned (.agg #[.int .i64 4, .int .i64 0, .int .i64 0, .int .i64 0]) ∧ Below w.heap.size w w' := by
  go_enter Tryz.func36, Tryz.ntmps36
  go_wp2_with fail
  exact bodyPost_ret (v := .agg #[.int .i64 4, .int .i64 0, .int .i64 0, .int .i64 0]) (by simp [results, Tryz.results36, go_sem]) rfl ⟨rfl, (Below.refl _ _).alloc (Nat.le_refl _) _⟩
def RetRow4 (xs : List Ins) (w : World) (e : Ending) (w' : World) : Prop := ∃ r, e = .returned r ∧ w'.ownsRow w.heap.size 37 4 r xs.length (flc xs) ∧ Below w.heap.size w w'
theorem RetRow4.rd {xs : List Ins} {w w' : World} {e : Ending} (h : RetRow4 xs w e w') : ∃ r, e = .returned r ∧ Rd w' r 4 xs.length (flc xs) ∧ Below w.heap.size w w' := by
  obtain ⟨r, rfl, h1, h2⟩ := h
  obtain ⟨bs, h3, -⟩ := Own.of_owns h1
  exact ⟨r, rfl, h3.rd, h2⟩
set_option maxHeartbeats 800000 in
theorem cloneI (v : Value) (xs : List Ins) (w : World) (h : Rd w v 4 xs.length (flc xs)) (hsz : xs.length ≤ 1048576) :
    Calls Tryz.prog 64 #[v] w (RetRow4 xs w) := by
  obtain ⟨A, c, rfl, -, hnc, hc, hr⟩ := id h
  unfold maxLen at hc
  obtain ⟨i, hi, hiz0, hiz1, hiz2⟩ := info_parts infoIns
  rcases A with _ | ad
  · have h0 : xs = [] := by
      by_cases hp : 0 < xs.length
      · obtain ⟨b, o, he, _⟩ := hr hp
        cases he
      · exact List.eq_nil_of_length_eq_zero (by omega)
    subst h0
    have e0 := fun w => Lib.run_eql_slice_nil (P := Tryz.prog) w 31 37 none 0 c 0 0 Tryz.underlying31
    go_enter Tryz.func64, Tryz.ntmps64
    go_wp2_with fail
    go_ret
    exact ⟨_, rfl, World.ownsRow_nil _ _ _ _, Below.refl _ _⟩
  · have hO := World.ownsRow_lit (base := w.heap.size) (e := 37) (size := 4) w #[] 0 (Nat.le_refl _) (by simp [maxLen]) rfl
    have hB := (Below.refl w.heap.size w).alloc (Nat.le_refl _) (.cells #[] 37)
    have hR := h.below hB
    clear hr h
    have e0 := fun w => Lib.run_eql_slice_nil (P := Tryz.prog) w 31 37 (some ad) xs.length c 0 0 Tryz.underlying31
    go_enter Tryz.func64, Tryz.ntmps64
    go_wp2_with (at_builtin; refine wpList_append_rd _ rfl _ _ 31 rfl w.heap.size 37 i (.agg #[.int .i64 0, .int .i64 0, .int .i64 0, .int .i64 0]) 4 32 Tryz.underlying31 hi hiz0 hiz1 hiz2 rfl (by decide) _ _ _ rfl hO _ xs.length (flc xs) rfl hR (flc_one' xs) (by unfold maxLen; omega) (by omega) (by simp) ?_)
    intro v' w1 hown' hgrow
    have hB' := hB.grown hgrow (by simp) (fun k hk => (hO.lt k hk).1)
    go_wp2_with fail
    go_ret
    exact ⟨_, rfl, by simpa using hown', hB'⟩
theorem rd_none {w : World} (A : Option Addr) {c : Nat} (hc : c ≤ 9223372036854775807) : Rd w (.slice A 0 c) 4 ([] : List Ins).length (flc []) :=
  ⟨A, c, rfl, rfl, Nat.zero_le _, by unfold maxLen; exact hc, fun h => absurd h (by simp)⟩
set_option maxHeartbeats 800000 in
theorem impl_instrAt (v : Value) (xs : List Ins) (k : Nat) (w : World) (h : Rd w v 4 xs.length (flc xs)) (hk : k ≤ xs.length) (hsz : xs.length ≤ 1048576) :
    Calls Tryz.prog 37 #[v, .int .i64 k] w (RetRow4 xs[k]?.toList w) := by
  obtain ⟨A, c, rfl, -, hnc, hc, hr⟩ := h
  unfold maxLen at hc
  by_cases hlt : k < xs.length
  · obtain ⟨b, o, rfl, hb, hcell⟩ := hr (by omega)
    obtain ⟨x, hx⟩ : ∃ x, xs[k]? = some x := ⟨_, List.getElem?_eq_getElem hlt⟩
    have hR : Rd w (.slice (some ⟨b, o + k * 4, none⟩) 1 (c - k)) 4 [x].length (flc [x]) := by
      refine ⟨_, _, rfl, rfl, by simp; omega, by unfold maxLen; omega, fun _ => ⟨b, o + k * 4, rfl, hb, fun j u hu => ?_⟩⟩
      have hj : j < 4 := by have := (List.getElem?_eq_some_iff.1 hu).1; rw [flc_len] at this; simpa using this
      rw [Nat.add_assoc]
      exact hcell (k * 4 + j) u (by rw [flc_at hx j hj]; exact hu)
    have hC := cloneI _ [x] w hR (by simp)
    have hc1 : ¬ c = k := by omega
    have hm : ¬ (xs.length : Int) < (k : Int) + 1 := by omega
    have HE : Hid (xs[k]?.toList = [x]) := Lib.hid (by rw [hx]; rfl)
    have HC := Lib.hid hC
    clear hC hR hr hcell hx
    go_enter Tryz.func37, Tryz.ntmps37
    go_wp2_with fail
    refine HC.out.mono ?_
    rintro e w1 ⟨r, rfl, h1, h2⟩
    go_wp2_with fail
    go_ret
    exact ⟨_, rfl, by rw [HE.out]; exact h1, h2⟩
  · obtain rfl : k = xs.length := by omega
    have HE : Hid (xs[xs.length]?.toList = []) := Lib.hid (by simp)
    have hm : (xs.length : Int) < (xs.length : Int) + 1 := by omega
    have hC : ∀ (A' : Option Addr) (c' : Nat), c' ≤ 9223372036854775807 → Calls Tryz.prog 64 #[.slice A' 0 c'] w (RetRow4 [] w) := fun A' c' h => cloneI _ [] w (rd_none A' h) (by simp)
    have HC := Lib.hid hC
    clear hC hr
    go_enter Tryz.func37, Tryz.ntmps37
    go_wp2_with fail
    all_goals
      refine (HC.out _ _ (by omega)).mono ?_
      rintro e w1 ⟨r, rfl, h1, h2⟩
      go_wp2_with fail
      go_ret
      exact ⟨_, rfl, by rw [HE.out]; exact h1, h2⟩
/-- the pieces that a function value hands out at the places 0 to n, in every world behind w -/
def Pieces (P : Program) (fn : FuncId) (cap : Array Value) (F : Nat → List Ins) (n : Nat) (w : World) : Prop :=
  ∀ (k : Nat) (W : World), k ≤ n → Below w.heap.size w W → Calls P fn (#[.int .i64 k] ++ cap) W fun e w' => ∃ r, e = .returned r ∧ Rd w' r 4 (F k).length (flc (F k)) ∧ Below W.heap.size W w'
set_option maxHeartbeats 3200000 in
theorem impl_rebuild (A : Option Addr) (n c : Nat) (fn : FuncId) (cap : Array Value) (F : Nat → List Ins) (w : World) (hn : n ≤ 16) (hnc : n ≤ c) (hc : c ≤ 9223372036854775807) (eg : ∀ args w, (callFunc fn args).run Tryz.prog w = .ok (.enter fn args) w) (hP : Pieces Tryz.prog fn cap F n w) (hF : ∀ i, (F i).length ≤ 2)
    (hT : ∀ k, ∀ i ∈ F k, i.o = 6 → 0 ≤ i.n ∧ i.n ≤ n) :
    Calls Tryz.prog 33 #[.slice A n c, .func (.func fn) #[] cap] w (RetRow4 (rebF F n) w) := by
  obtain ⟨i, hi, hiz0, hiz1, hiz2⟩ := info_parts infoInt
  obtain ⟨s, hs, hsz0, hsz1, hsz2⟩ := info_parts infoIns
  have HP := Lib.hid hP
  have HF := Lib.hid hF
  have HT := Lib.hid hT
  clear hP hF hT
  go_enter Tryz.func33, Tryz.ntmps33
  go_wp2_with (at_make; refine wpList_make_full _ rfl _ _ 58 rfl w.heap.size 3 i (.int .i64 0) 1 Tryz.underlying58 hi hiz0 hiz1 _ _ _ _ (n + 1) rfl rfl (by simp) (by simp) (by rw [hiz2]; omega) (by unfold maxLen; omega) (Nat.le_refl _) ?_)
  intro w1 hown hg1
  have hM0 : w1.ownsRow w.heap.size 3 1 (.slice (some ⟨w.heap.size, 0, none⟩) (n + 1) (n + 1)) (n + 1) (ints (mvPart F n 0)) := by
    rw [← mvPart_zero]
    simpa [toList_madeCells_one, Value.cells] using hown
  have hB1 : Below w.heap.size w w1 := (Below.refl _ _).grown hg1 (Nat.le_refl _) (by simp)
  clear hown hg1
  go_wp2_with fail
  go_loopw [5, 14] (fun vo j wr => ∃ (k : Nat) (L : List Ins), k ≤ n + 1 ∧ j = .int .i64 k ∧ L.length ≤ 2 * k ∧ Hid (L = pcs F k) ∧ wr.ownsRow w.heap.size 37 4 vo L.length (flc L) ∧
    wr.ownsRow w.heap.size 3 1 (.slice (some ⟨w.heap.size, 0, none⟩) (n + 1) (n + 1)) (n + 1) (ints (mvPart F n k)) ∧ Below w.heap.size w wr) (fun _ j _ => n + 1 - (intOf j).toNat)
  case atStart => exact ⟨0, [], Nat.zero_le _, rfl, Nat.le_refl _, Lib.hid rfl, ⟨rfl, .inl ⟨rfl, rfl⟩⟩, hM0, hB1⟩
  case round =>
    obtain ⟨k, L, hk, rfl, hL, HL, hO, hM, hB⟩ := hrel
    clear hM0 hB1
    obtain ⟨AO, cO, rfl, hcO, hcOm⟩ := owns_slice hO
    by_cases hlt : k < n + 1
    · have hcm0 : wr.cell? ⟨w.heap.size, k, none⟩ = some (.int .i64 ((mvPart F n k).getD k 0)) := (hM.cellAt k (by omega)).trans (ints_at (by rw [mvPart_len (by omega)]; omega))
      have hfz := hM.frozenAt k
      have hml := hM.lt w.heap.size rfl
      obtain ⟨mk, hmk⟩ : ∃ mk, (mvPart F n k).getD k 0 = mk := ⟨_, rfl⟩
      rw [hmk] at hcm0
      have hst := hM.stored k (.int .i64 L.length)
      have hms : Hid ((ints (mvPart F n k)).set k (.int .i64 L.length) = ints (mvPart F n (k + 1))) := Lib.hid (by rw [ints_set, HL.out, mvPart_set (by omega)])
      have hM1 := hst.1
      rw [hms.out] at hM1
      have hO1 := hO.kept hst.2 (own_ne hO hM (by decide))
      have hB1 := hB.setCell (p := ⟨w.heap.size, k, none⟩) hml.1 (.int .i64 L.length)
      have HC := Lib.hid (HP.out k _ (by omega) hB1)
      have hFk := HF.out k
      have HS := Lib.hid (pcs_snoc F k)
      clear hmk hst hO hM hB
      go_wp2_with fail
      refine HC.out.mono ?_
      rintro e w3 ⟨r, rfl, hr3, hb3⟩
      have hO3 := ownsRow_below hO1 hb3
      have hM3 := ownsRow_below hM1 hb3
      have hB3 := hB1.trans (hb3.mono hB1.size)
      obtain ⟨FK, hFK⟩ : ∃ FK, F k = FK := ⟨_, rfl⟩
      rw [hFK] at hr3 hFk HS
      clear hO1 hM1 hB1 hb3 hcm0 hfz hFK
      go_wp2_with (at_builtin; refine wpList_append_rd _ rfl _ _ 31 rfl w.heap.size 37 s (.agg #[.int .i64 0, .int .i64 0, .int .i64 0, .int .i64 0]) 4 32 Tryz.underlying31 hs hsz0 hsz1 hsz2 rfl (by decide) _ _ _ rfl hO3 _ FK.length (flc FK) rfl hr3 (flc_one' FK) (by unfold maxLen; omega) (by omega) hB3.size ?_)
      intro v4 w4 ho4 hg4
      have hM4 := hM3.kept hg4 (own_ne hM3 hO3 (by decide))
      have hB4 := hB3.grown hg4 hB3.size (fun k hk => (hO3.lt k hk).1)
      rw [← flc_append, ← List.length_append] at ho4
      clear hO3 hM3 hB3 hg4 hr3
      go_wp2_with fail
      exact ⟨⟨k + 1, L ++ FK, by omega, by go_num, by simp; omega, Lib.hid (by rw [HS.out, HL.out]), ho4, hM4, hB4⟩, by simp [intOf]; omega⟩
    · obtain rfl : k = n + 1 := by omega
      rw [mvPart_all] at hM
      have hMl : (mvs F (n + 1)).length = n + 1 := mvs_len F (n + 1)
      have HX : Hid ((L.map (retI (mvs F (n + 1)))) = rebF F n) := Lib.hid (by rw [HL.out]; rfl)
      have hTL : ∀ i ∈ L, i.o = 6 → 0 ≤ i.n ∧ i.n < (mvs F (n + 1)).length := by
        intro i hi h6
        rw [HL.out] at hi
        obtain ⟨j, hj⟩ := pcs_mem hi
        have := HT.out j i hj h6
        rw [hMl]
        omega
      obtain ⟨M1, hM1⟩ : ∃ M1, mvs F (n + 1) = M1 := ⟨_, rfl⟩
      rw [hM1] at hM hMl hTL HX
      have hM2 := hM
      rw [← hMl] at hM2
      have hR := impl_retarget _ _ _ _ L M1 _ wr hO hM2 hB.size (by omega) (by omega) (Lib.hid hTL)
      rw [hMl] at hR
      have HR := Lib.hid hR
      clear hR hM2 hM hMl hTL hM1
      go_wp2_with fail
      refine HR.out.mono ?_
      rintro e w2 ⟨rfl, hO2, hb2⟩
      go_wp2_with fail
      go_ret
      exact ⟨_, rfl, by rw [← HX.out]; simpa using hO2, hB.trans hb2⟩
theorem rd_newI (w : World) (xs : List Ins) (t : TypeId) (cs : Array Value) (hcs : cs = (flc xs).toArray) {n : Nat} (hn : n = xs.length) (hm : n ≤ 1048576) : Rd (w.alloc (.cells cs t)) (.slice (some ⟨w.heap.size, 0, none⟩) n n) 4 xs.length (flc xs) := by
  subst hn hcs
  refine ⟨_, _, rfl, by rw [flc_len], Nat.le_refl _, by unfold maxLen; omega, fun _ => ⟨_, _, rfl, by simp, fun j u hu => ?_⟩⟩
  rw [Nat.zero_add, World.cell?_alloc_new]
  simpa using hu
set_option maxHeartbeats 1600000 in
theorem impl_fenPiece (b0 : Nat) (v : Value) (xs : List Ins) (k : Nat) (W : World) (hk : Bk W b0 #[v] 31) (h : Rd W v 4 xs.length (flc xs)) (hkl : k ≤ xs.length) (hsz : xs.length ≤ 16) :
    Calls Tryz.prog 34 #[.int .i64 k, .pointer (some ⟨b0, 0, none⟩)] W fun e w' => ∃ r, e = .returned r ∧ Rd w' r 4 (fenP xs k).length (flc (fenP xs k)) ∧ Below W.heap.size W w' := by
  obtain ⟨A, c, rfl, -, hnc, hc, hr⟩ := id h
  unfold maxLen at hc
  obtain ⟨hq0, -⟩ := hk.at_ 0 (x := .slice A xs.length c) rfl
  have HR := Lib.hid h
  have KH := Lib.hid hk
  clear h hk
  by_cases hlt : k < xs.length
  · obtain ⟨x, hx⟩ : ∃ x, xs[k]? = some x := ⟨_, List.getElem?_eq_getElem hlt⟩
    have hL := impl_lacksFence _ xs k W HR.out hlt
    cases hlk : lacksB xs k
    · have HE : Hid (fenP xs k = xs[k]?.toList) := Lib.hid (by simp [fenP, hx, hlk])
      rw [hlk] at hL
      have HL := Lib.hid hL
      clear hL hr hx hlk
      go_enter Tryz.func34, Tryz.ntmps34
      go_wp2_with fail
      refine HL.out.mono ?_
      rintro e w1 ⟨rfl, hb1⟩
      obtain ⟨hq1, -⟩ := (KH.out.below hb1 KH.out.lt).at_ 0 (x := .slice A xs.length c) rfl
      go_wp2_with fail
      refine (impl_instrAt _ xs k _ (HR.out.below hb1) hkl (by omega)).mono ?_
      intro e w2 h2
      obtain ⟨r, rfl, h3, h4⟩ := h2.rd
      go_wp2_with fail
      go_ret
      exact ⟨_, rfl, by rw [HE.out]; exact h3, hb1.trans (h4.mono hb1.size)⟩
    · have HE : Hid (fenP xs k = [x, fenceI]) := Lib.hid (by simp [fenP, hx, hlk])
      rw [hlk] at hL
      have HL := Lib.hid hL
      obtain ⟨b, o, rfl, hb, hcell⟩ := hr (by omega)
      obtain ⟨x', hxk, hx0, hx1, hx2, hx3⟩ := ins_at hcell hlt
      obtain rfl : x' = x := Option.some.inj (hxk.out.symm.trans hx)
      have HS : Hid (∀ q : World, Below W.heap.size W q → Below W.heap.size W q ∧ q.cell? ⟨b0, 0, none⟩ = some (.slice (some ⟨b, o, none⟩) xs.length c) ∧ q.cell? ⟨b, o + k * 4, none⟩ = some (.int .i64 x'.o) ∧ q.cell? ⟨b, o + k * 4 + 1, none⟩ = some (.int .i64 x'.r) ∧
          q.cell? ⟨b, o + k * 4 + 2, none⟩ = some (.int .i64 x'.s) ∧ q.cell? ⟨b, o + k * 4 + 3, none⟩ = some (.int .i64 x'.n)) := Lib.hid fun q hq =>
        ⟨hq, (hq.cell (p := ⟨b0, 0, none⟩) KH.out.lt).trans hq0, (hq.cell (p := ⟨b, o + k * 4, none⟩) hb).trans hx0, (hq.cell (p := ⟨b, o + k * 4 + 1, none⟩) hb).trans hx1, (hq.cell (p := ⟨b, o + k * 4 + 2, none⟩) hb).trans hx2, (hq.cell (p := ⟨b, o + k * 4 + 3, none⟩) hb).trans hx3⟩
      clear hL hr hx hlk hcell
      go_enter Tryz.func34, Tryz.ntmps34
      go_wp2_with fail
      refine HL.out.mono ?_
      rintro e w1 ⟨rfl, hb1⟩
      have hT := HS.out _ hb1
      obtain ⟨-, hd0, hd1, hd2, hd3, hd4⟩ := hT
      have hl0 : b0 < w1.heap.size := Nat.lt_of_lt_of_le KH.out.lt hb1.size
      have hl1 : b < w1.heap.size := Nat.lt_of_lt_of_le hb hb1.size
      have HS1 : Hid (∀ q : World, Below w1.heap.size w1 q → Below w1.heap.size w1 q ∧ q.cell? ⟨b0, 0, none⟩ = some (.slice (some ⟨b, o, none⟩) xs.length c) ∧ q.cell? ⟨b, o + k * 4, none⟩ = some (.int .i64 x'.o) ∧ q.cell? ⟨b, o + k * 4 + 1, none⟩ = some (.int .i64 x'.r) ∧
          q.cell? ⟨b, o + k * 4 + 2, none⟩ = some (.int .i64 x'.s) ∧ q.cell? ⟨b, o + k * 4 + 3, none⟩ = some (.int .i64 x'.n)) := Lib.hid fun q hq => ⟨hq, (HS.out _ (hb1.trans (hq.mono hb1.size))).2⟩
      have HB1 := Lib.hid hb1
      clear hq0 hx0 hx1 hx2 hx3 hb1
      go_upto_region 2 with (fail)
      go_region_held3 (fun q => Below w1.heap.size w1 q ∧ q.cell? ⟨b0, 0, none⟩ = some (.slice (some ⟨b, o, none⟩) xs.length c) ∧ q.cell? ⟨b, o + k * 4, none⟩ = some (.int .i64 x'.o) ∧ q.cell? ⟨b, o + k * 4 + 1, none⟩ = some (.int .i64 x'.r) ∧
          q.cell? ⟨b, o + k * 4 + 2, none⟩ = some (.int .i64 x'.s) ∧ q.cell? ⟨b, o + k * 4 + 3, none⟩ = some (.int .i64 x'.n)) (first | (exact HS1.out _ (Below.refl _ _).drew) | (exact HS1.out _ (hS2.alloc hS2.size _)) | (exact HS1.out _ (by assumption)))
        (first | (go_at_call 36; have hS := ‹Below w1.heap.size w1 _ ∧ _›.1; refine (impl_newFence _).mono ?_; rintro e w9 ⟨rfl, hb9⟩; have hS2 := hS.trans (hb9.mono hS.size); clear hS))
      all_goals
        go_wp2_with fail
        go_ret
        exact ⟨_, rfl, by rw [HE.out]; exact rd_newI _ [x', fenceI] _ _ rfl rfl (by simp), (HB1.out.trans (hS2.mono HB1.out.size)).alloc (by have := HB1.out.size; have := hS2.size; omega) _⟩
  · obtain rfl : k = xs.length := by omega
    have HE : Hid (fenP xs xs.length = xs[xs.length]?.toList) := Lib.hid (by simp [fenP])
    clear hr
    go_enter Tryz.func34, Tryz.ntmps34
    go_wp2_with fail
    refine (impl_instrAt _ xs xs.length _ HR.out hkl (by omega)).mono ?_
    intro e w2 h2
    obtain ⟨r, rfl, h3, h4⟩ := h2.rd
    go_wp2_with fail
    go_ret
    exact ⟨_, rfl, by rw [HE.out]; exact h3, h4⟩
set_option maxHeartbeats 3200000 in
theorem impl_WithFences (v : Value) (xs : List Ins) (w : World) (h : Rd w v 4 xs.length (flc xs)) :
    Calls Tryz.prog 12 #[v] w (RetCodeB ((wfF xs).getD []) (wfF xs).isSome w) := by
  have hmf : ∀ (fn : Fn) (first cap : Array Value) (w : World), (Instr.makeFunc fn first cap).run Tryz.prog w = .ok (.func fn first cap) w := fun _ _ _ _ => rfl
  obtain ⟨A, c, rfl, -, hnc, hc, hr⟩ := id h
  unfold maxLen at hc
  have k0 := Bk.new w #[.slice A xs.length c] 31
  have hB0 := (Below.refl w.heap.size w).alloc (Nat.le_refl _) (.cells #[.slice A xs.length c] 31)
  obtain ⟨hq0, -⟩ := k0.at_ 0 (x := .slice A xs.length c) rfl
  have HH := Lib.hid (h.below hB0)
  have K0 := Lib.hid k0
  clear h k0
  by_cases hlen : xs.length ≤ 16
  · have hT := impl_targetsOk _ xs _ HH.out
    cases htg : tgtOk xs
    · have HF : Hid (wfF xs = none) := Lib.hid (by simp [wfF, htg])
      rw [htg] at hT
      have HT := Lib.hid hT
      clear hT htg hr
      go_enter Tryz.func12, Tryz.ntmps12
      go_wp2_with fail
      refine HT.out.mono ?_
      rintro e w1 ⟨rfl, hb1⟩
      go_wp2_with fail
      exact bodyPost_ret (v := .tuple #[.slice none 0 0, .bool false]) (by simp [results, Tryz.results12, go_sem]) rfl ⟨_, [], by rw [HF.out]; rfl, by rw [HF.out]; exact Own.nil _ _, by simp, hB0.trans (hb1.mono hB0.size)⟩
    · rw [htg] at hT
      have HT := Lib.hid hT
      have HG := Lib.hid htg
      clear hT htg hr
      go_enter Tryz.func12, Tryz.ntmps12
      go_wp2_with fail
      refine HT.out.mono ?_
      rintro e w1 ⟨rfl, hb1⟩
      have k1 := K0.out.below hb1 K0.out.lt
      have hr1 := HH.out.below hb1
      have hB1 := hB0.trans (hb1.mono hB0.size)
      obtain ⟨hq1, -⟩ := k1.at_ 0 (x := .slice A xs.length c) rfl
      have hP : Pieces Tryz.prog 34 #[.pointer (some ⟨w.heap.size, 0, none⟩)] (fenP xs) xs.length w1 := fun k W hk hW => impl_fenPiece _ _ xs k W (k1.below hW k1.lt) (hr1.below hW) hk hlen
      have HR := Lib.hid (impl_rebuild A xs.length c 34 #[.pointer (some ⟨w.heap.size, 0, none⟩)] (fenP xs) w1 hlen hnc hc (enters_of Tryz.func34 (by kernel_rfl) rfl) hP (fenP_len xs) (fun k i hi h6 => fenP_tgt HG.out hi h6))
      have hlb := pcs_len (fenP_len xs) (xs.length + 1)
      rw [← rebF_len] at hlb
      have HW := Lib.hid (wfF_reb xs)
      clear hP k1 hr1 hq0 hb1
      go_wp2_with fail
      refine HR.out.mono ?_
      rintro e w2 ⟨r, rfl, ho2, hb2⟩
      have hB2 := hB1.trans (hb2.mono hB1.size)
      obtain ⟨L, hL⟩ : ∃ L, rebF (fenP xs) xs.length = L := ⟨_, rfl⟩
      rw [hL] at ho2 HW hlb
      obtain ⟨AO, cO, rfl, hcO, hcOm⟩ := owns_slice ho2
      clear hL
      by_cases hbig : L.length ≤ 16
      · have HF : Hid (wfF xs = some L) := Lib.hid (by rw [HW.out, if_pos ⟨hlen, HG.out, hbig⟩])
        obtain ⟨bs, h1, h2⟩ := Own.of_owns ho2
        go_wp2_with fail
        exact bodyPost_ret (v := .tuple #[.slice AO L.length cO, .bool true]) (by simp [results, Tryz.results12, go_sem]) rfl ⟨_, bs, by rw [HF.out]; rfl, by rw [HF.out]; exact h1, fun b hb => Nat.le_trans hB1.size (h2 b hb), hB2⟩
      · have HF : Hid (wfF xs = none) := Lib.hid (by rw [HW.out, if_neg (fun h => hbig h.2.2)])
        go_wp2_with fail
        exact bodyPost_ret (v := .tuple #[.slice none 0 0, .bool false]) (by simp [results, Tryz.results12, go_sem]) rfl ⟨_, [], by rw [HF.out]; rfl, by rw [HF.out]; exact Own.nil _ _, by simp, hB2⟩
  · have HF : Hid (wfF xs = none) := Lib.hid (by simp [wfF, hlen])
    clear hr
    go_enter Tryz.func12, Tryz.ntmps12
    go_wp2_with fail
    exact bodyPost_ret (v := .tuple #[.slice none 0 0, .bool false]) (by simp [results, Tryz.results12, go_sem]) rfl ⟨_, [], by rw [HF.out]; rfl, by rw [HF.out]; exact Own.nil _ _, by simp, hB0⟩
theorem wfF_len (xs : List Ins) : ((wfF xs).getD []).length ≤ 16 := by
  unfold wfF
  split
  · rename_i h
    simpa using h.2.2
  · simp
end Go.Proofs.YtgbgjlmkmlhefaaGreatDoor
