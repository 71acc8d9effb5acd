/- Contracts of spec.SpotsOf, impl.spotsIn and impl.SpotsOf: the spots of loads behind a store. Condition: the codes can be read. -/
import Derived.Test.YtgbgjlmkmlhefaaV12
import Derived.Test.YtgbgjlmkmlhefaaS2e
import Derived.Deep.DeepCutAuto
import Derived.Deep.RegionHeld3
namespace Go.Proofs.Ytgbgjlmkmlhefaa
set_option maxRecDepth 20000
set_option linter.unusedSimpArgs false
set_option linter.unusedVariables false
open Go.ChangeShapes Go.WideShapes Go.ChangeAt Go.RowKit
set_option linter.unusedVariables false
theorem spF_yes {p : Pr} (h : progOkF p = true) : spF p = spX p.x p.x.length := by simp [spF, h]
theorem spF_no {p : Pr} (h : progOkF p = false) : spF p = [] := by simp [spF, h]
theorem wtAt_snoc {xs : List Ins} {k : Nat} {x : Ins} (h : xs[k]? = some x) : wtAt xs (k + 1) = if x.o = 3 then true else if fenceB x = true ∨ x.o = 6 then false else wtAt xs k := by
  rw [wtAt, h]
theorem spB_at {xs : List Ins} {k : Nat} {x : Ins} (h : xs[k]? = some x) : spB xs k = (x.o == 2 && wtAt xs k) := by
  unfold spB
  rw [h]
theorem sp_yes {xs : List Ins} {k : Nat} (t : Nat) (h : spB xs k = true) : tagS t (spIn xs (k + 1)) = tagS t (spIn xs k) ++ [⟨(t : Int), (k : Int)⟩] := by
  rw [spIn_snoc, h, tagS_app]
  rfl
theorem sp_no {xs : List Ins} {k : Nat} (h : spB xs k = false) : spIn xs (k + 1) = spIn xs k := by
  rw [spIn_snoc, h]
  simp
theorem owns_newP2 (w : World) (t : TypeId) : (w.alloc (.cells #[] t)).ownsRow w.heap.size t 2 (.slice (some ⟨w.heap.size, 0, none⟩) 0 0) 0 [] :=
  ⟨by simp, .inr ⟨w.heap.size, 0, #[], rfl, Nat.le_refl _, heap_alloc_new w _, Nat.le_refl _, by simp [maxLen], by simp, by simp⟩⟩
theorem owns_snocP {w : World} {base : Nat} {t : TypeId} {v : Value} {N : List P2} {x : P2} (h : w.ownsRow base t 2 v (N.length + 1) (flc2 N ++ [.int .i64 x.a, .int .i64 x.b])) : w.ownsRow base t 2 v (N ++ [x]).length (flc2 (N ++ [x])) := by
  rw [flc2_append, flc2_one]
  simpa [p2C] using h
theorem spX_len {xss : List (List Ins)} (h : ∀ xs ∈ xss, xs.length ≤ 16) : ∀ k, k ≤ xss.length → (spX xss k).length ≤ 16 * k
  | 0, _ => by simp [spX]
  | k + 1, hk => by
    have ih := spX_len h k (by omega)
    obtain ⟨xs, hx⟩ : ∃ xs, xss[k]? = some xs := ⟨_, List.getElem?_eq_getElem hk⟩
    have h1 := h xs (List.mem_of_getElem? hx)
    have h2 := spIn_len xs xs.length
    rw [spX_snoc hx, List.length_append, tagS_len]
    omega
theorem spF_len (p : Pr) : (spF p).length ≤ 48 := by
  cases h : progOkF p
  · rw [spF_no h]
    simp
  · have h1 := progOk_parts h
    have := spX_len (fun xs hx => codeOk_len (h1.2.2 xs hx)) p.x.length (Nat.le_refl _)
    rw [spF_yes h]
    omega
def RetSpots (L : List P2) (w : World) (e : Ending) (w' : World) : Prop := ∃ v' bs, e = .returned v' ∧ Own w' v' 2 L.length (flc2 L) bs ∧ (∀ b ∈ bs, w.heap.size ≤ b) ∧ Below w.heap.size w w'
set_option maxHeartbeats 6400000 in
theorem spec_SpotsOf (v : Value) (p : Pr) (w : World) (h : RdSS w v p.x) :
    Calls Try.prog 24 #[.agg #[.int .i64 p.c, v]] w (RetSpots (spF p) w) := by
  obtain ⟨vs, ⟨A, c, rfl, -, hnc, hc, hr⟩, hin⟩ := id h
  unfold maxLen at hc
  obtain ⟨i, hi, hiz0, hiz1, hiz2⟩ := info_parts infoSpot
  have hB0 := ((Below.refl w.heap.size w).alloc (Nat.le_refl _) (.cells #[.int .i64 p.c, .slice A p.x.length c] 33)).alloc (by simp) (.cells #[] 29)
  have k0 := (Bk.new w #[.int .i64 p.c, .slice A p.x.length c] 33).alloc (.cells #[] 29)
  have hO0 := owns_newP2 (w.alloc (.cells #[.int .i64 p.c, .slice A p.x.length c] 33)) 29
  simp only [World.size_alloc] at hO0
  obtain ⟨W, hW⟩ : ∃ W, (w.alloc (.cells #[.int .i64 p.c, .slice A p.x.length c] 33)).alloc (.cells #[] 29) = W := ⟨_, rfl⟩
  rw [hW] at hB0 k0 hO0
  have HW := Lib.hid hW
  have hC := spec_ProgOk _ p _ (h.below hB0)
  have l0 := k0.lt
  obtain ⟨hq0, -⟩ := k0.at_ 0 (x := .int .i64 p.c) rfl
  obtain ⟨hq1, -⟩ := k0.at_ 1 (x := .slice A p.x.length c) rfl
  clear h hW
  cases hok : progOkF p
  · have HV := Lib.hid (spF_no hok)
    rw [hok] at hC
    have HC := Lib.hid hC
    clear hC hok hr hin k0 hO0
    go_enter Try.func24, Try.ntmps24
    go_upto_region 2 with (fail)
    rw [HW.out]
    go_wp2_with fail
    refine HC.out.mono ?_
    rintro e w1 ⟨rfl, hb1⟩
    go_wp2_with fail
    go_ret
    exact ⟨_, [], rfl, by rw [HV.out]; exact Own.nil _ _, by simp, hB0.trans (hb1.mono hB0.size)⟩
  · have HV := Lib.hid (spF_yes hok)
    have HOK := Lib.hid hok
    have hpl := (progOk_parts hok).2.1
    obtain ⟨b, o, rfl, hb, hcell⟩ := hr (by omega)
    rw [hok] at hC
    have HC := Lib.hid hC
    clear hC hok
    go_enter Try.func24, Try.ntmps24
    go_upto_region 2 with (fail)
    rw [HW.out]
    go_wp2_with fail
    refine HC.out.mono ?_
    rintro e w1 ⟨rfl, hb1⟩
    have k1 := k0.below hb1 l0
    have hB1 := hB0.trans (hb1.mono hB0.size)
    have hO1 := ownsRow_below hO0 hb1
    clear hq0 hq1 hb1 hO0
    go_wp2_with fail
    go_loopw [3, 4] (fun vo i wr => ∃ (k : Nat) (L : List P2), k ≤ p.x.length ∧ i = .int .i64 k ∧ L.length ≤ 16 * k ∧ Hid (L = spX p.x k) ∧ wr.ownsRow (w.heap.size + 1) 29 2 vo L.length (flc2 L) ∧ Below w.heap.size w wr ∧ Bk wr w.heap.size #[.int .i64 p.c, .slice (some ⟨b, o, none⟩) p.x.length c] 33) (fun _ i _ => p.x.length - (intOf i).toNat)
    case atStart => exact ⟨0, [], Nat.zero_le _, rfl, Nat.le_refl _, Lib.hid rfl, hO1, hB1, k1⟩
    case round =>
      obtain ⟨k, L, hk, rfl, hL, HL, hO, hB, kp⟩ := hrel
      clear hB1 k1 k0 hB0 hO1
      obtain ⟨hq0, -⟩ := kp.at_ 0 (x := .int .i64 p.c) rfl
      obtain ⟨hq1, -⟩ := kp.at_ 1 (x := .slice (some ⟨b, o, none⟩) p.x.length c) rfl
      by_cases hlt : k < p.x.length
      · obtain ⟨xs, hxk⟩ : ∃ xs, p.x[k]? = some xs := ⟨_, List.getElem?_eq_getElem hlt⟩
        obtain ⟨ck, hck, hrk⟩ := hin.at_ hxk
        have hx16 := codeOk_len ((progOk_parts HOK.out).2.2 xs (List.mem_of_getElem? hxk))
        obtain ⟨Ak, dk, rfl, -, hncx, hcx, hrx⟩ := id hrk
        unfold maxLen at hcx
        have HX := Lib.hid hxk
        have HROW : Hid (∀ W, Below w.heap.size w W → W.cell? ⟨b, o + k, none⟩ = some (.slice Ak xs.length dk)) := Lib.hid fun W hW => (hW.cell (p := ⟨b, o + k, none⟩) hb).trans (hcell k _ hck)
        have hq2 := HROW.out _ hB
        clear hr hxk hrk
        go_wp2_with fail
        go_loopw [3, 5, 6] (fun vo wv j wr => ∃ (m : Nat) (M : List P2) (wt : Bool), m ≤ xs.length ∧ j = .int .i64 m ∧ wv = .bool wt ∧ Hid (wt = wtAt xs m) ∧ M.length ≤ 16 * k + m ∧ Hid (M = spX p.x k ++ tagS k (spIn xs m)) ∧
          wr.ownsRow (w.heap.size + 1) 29 2 vo M.length (flc2 M) ∧ Below w.heap.size w wr ∧ Bk wr w.heap.size #[.int .i64 p.c, .slice (some ⟨b, o, none⟩) p.x.length c] 33) (fun _ _ j _ => xs.length - (intOf j).toNat)
        case atStart => exact ⟨0, L, false, Nat.zero_le _, rfl, rfl, Lib.hid rfl, hL, Lib.hid (by rw [HL.out]; simp [spIn, tagS]), hO, hB, kp⟩
        case round =>
          obtain ⟨m, M, wt, hm, rfl, rfl, HWT, hM, HM, hOq, hBq, kq⟩ := hrel
          clear hO hB kp hq0 hq1 hq2
          obtain ⟨hq0, -⟩ := kq.at_ 0 (x := .int .i64 p.c) rfl
          obtain ⟨hq1, -⟩ := kq.at_ 1 (x := .slice (some ⟨b, o, none⟩) p.x.length c) rfl
          have hq2 := HROW.out _ hBq
          by_cases hmlt : m < xs.length
          · obtain ⟨b2, o2, rfl, hb2, hcell2⟩ := hrx (by omega)
            obtain ⟨x, hxm, hx0, hx1, hx2, hx3⟩ := ins_at (fun j u hu => (hBq.cell (p := ⟨b2, o2 + j, none⟩) hb2).trans (hcell2 j u hu)) hmlt
            obtain ⟨xo, xr, xsS, xn⟩ := x
            simp only at hx0 hx1 hx2 hx3
            have k2 := Bk.new wr #[.int .i64 xo, .int .i64 xr, .int .i64 xsS, .int .i64 xn] 74
            have hOv := hOq.alloc (.cells #[.int .i64 xo, .int .i64 xr, .int .i64 xsS, .int .i64 xn] 74)
            have hBv := hBq.alloc (Nat.le_trans hBq.size (Nat.le_refl _)) (.cells #[.int .i64 xo, .int .i64 xr, .int .i64 xsS, .int .i64 xn] 74)
            have kv := kq.alloc (.cells #[.int .i64 xo, .int .i64 xr, .int .i64 xsS, .int .i64 xn] 74)
            obtain ⟨AO, cO, rfl, hcO, hcOm⟩ := owns_slice hOq
            have hlk : ∀ g, (Value.slice AO M.length cO).ownBlock = some g → wr.heap.size ≠ g := fun g hg => by have := (hOq.lt g hg).2; omega
            have hlp : ∀ g, (Value.slice AO M.length cO).ownBlock = some g → w.heap.size ≠ g := fun g hg => by have := (hOq.lt g hg).1; omega
            have hbs : w.heap.size < wr.heap.size := kq.lt
            have HT := wtAt_snoc hxm.out
            have HS := spB_at hxm.out
            rw [← HWT.out] at HT HS
            simp only at HT HS
            have hF := spec_HasFence ⟨xo, xr, xsS, xn⟩
            obtain ⟨wv, hwv⟩ : ∃ wv, wr.alloc (.cells #[.int .i64 xo, .int .i64 xr, .int .i64 xsS, .int .i64 xn] 74) = wv := ⟨_, rfl⟩
            rw [hwv] at k2 hOv hBv kv
            have HWV := Lib.hid hwv
            have l2 := k2.lt
            clear hwv hcell2 hrx hOq
            have hcase : (xo = 2 ∧ wt = true) ∨ (xo = 2 ∧ wt = false) ∨ xo = 3 ∨ (xo ≠ 2 ∧ xo ≠ 3 ∧ fenceB ⟨xo, xr, xsS, xn⟩ = true) ∨ xo = 6 ∨ (xo ≠ 2 ∧ xo ≠ 3 ∧ xo ≠ 6 ∧ fenceB ⟨xo, xr, xsS, xn⟩ = false) := by
              have h2 : xo = 2 → fenceB ⟨xo, xr, xsS, xn⟩ = false := fun h => by subst h; rfl
              have h3 : xo = 3 → fenceB ⟨xo, xr, xsS, xn⟩ = false := fun h => by subst h; rfl
              cases wt <;> cases fenceB ⟨xo, xr, xsS, xn⟩ <;> simp at h2 h3 ⊢ <;> omega
            go_upto_region 12 with (fail)
            rw [HWV.out]
            clear hq0 hq1 hq2 hx0 hx1 hx2 hx3
            obtain ⟨hk0, -⟩ := k2.at_ 0 rfl
            obtain ⟨hk1, -⟩ := k2.at_ 1 rfl
            obtain ⟨hk2, -⟩ := k2.at_ 2 rfl
            obtain ⟨hk3, -⟩ := k2.at_ 3 rfl
            rcases hcase with ⟨rfl, rfl⟩ | ⟨rfl, rfl⟩ | rfl | ⟨h2, h3, hfb⟩ | rfl | ⟨h2, h3, h6, hfb⟩
            · have HQ := Lib.hid (sp_yes k HS)
              have HW2 : Hid (wtAt xs (m + 1) = true) := Lib.hid (by rw [HT]; rfl)
              have HF := Lib.hid hF
              rw [show fenceB ⟨2, xr, xsS, xn⟩ = false from rfl] at hF
              have HF := Lib.hid hF
              clear hF HT HS
              go_wp2_with (at_builtin; refine wpList_append_own _ rfl _ _ 41 rfl ((w.heap.size + 1)) 29 i (.agg #[.int .i64 0, .int .i64 0]) 2 16 Try.underlying41 hi hiz0 hiz1 hiz2 rfl (by decide) _ _ _ rfl (hOv.alloc _) ⟨wv.heap.size, 0, none⟩ 1 1 [.int .i64 k, .int .i64 m] rfl rfl (new_cells _ _ _) (by simp [Value.oneCell']) (by unfold maxLen; omega) (by omega) (by have := hBv.size; simp; omega) ?_)
              intro vo3 w3 ho3 hg3 _
              have hB3 := (hBv.alloc hBv.size _).grown hg3 (by have := hBv.size; simp; omega) (fun k hk => by have := (hOv.lt k hk).1; omega)
              have k3 := (k2.alloc (.cells #[.int .i64 k, .int .i64 m] 29)).grown hg3 hlk
              have kp3 := (kv.alloc (.cells #[.int .i64 k, .int .i64 m] 29)).grown hg3 hlp
              have ho4 := owns_snocP (x := ⟨(k : Int), (m : Int)⟩) ho3
              clear hk0 hk1 hk2 hk3 hg3 ho3
              obtain ⟨hk0, -⟩ := k3.at_ 0 rfl
              obtain ⟨hk1, -⟩ := k3.at_ 1 rfl
              obtain ⟨hk2, -⟩ := k3.at_ 2 rfl
              obtain ⟨hk3, -⟩ := k3.at_ 3 rfl
              go_wp2_with fail
              refine (HF.out _).mono ?_
              rintro e w4 ⟨rfl, hb4⟩
              have k4 := k3.below hb4 k3.lt
              have kp4 := kp3.below hb4 kp3.lt
              obtain ⟨hn0, -⟩ := k4.at_ 0 rfl
              go_wp2_with fail
              exact ⟨⟨m + 1, M ++ [⟨(k : Int), (m : Int)⟩], true, by omega, by go_num, rfl, Lib.hid HW2.out.symm, by simp; omega, Lib.hid (by rw [HQ.out, HM.out, List.append_assoc]), ownsRow_below ho4 hb4, hB3.trans (hb4.mono hB3.size), kp4⟩, by simp [intOf]; omega⟩
            · have HQ := Lib.hid (sp_no (xs := xs) (k := m) (by rw [HS]; rfl))
              have HW2 : Hid (wtAt xs (m + 1) = false) := Lib.hid (by rw [HT]; rfl)
              rw [show fenceB ⟨2, xr, xsS, xn⟩ = false from rfl] at hF
              have HF := Lib.hid hF
              clear hF HT HS
              go_wp2_with fail
              refine (HF.out _).mono ?_
              rintro e w4 ⟨rfl, hb4⟩
              have k4 := k2.below hb4 k2.lt
              have kp4 := kv.below hb4 kv.lt
              obtain ⟨hn0, -⟩ := k4.at_ 0 rfl
              go_wp2_with fail
              exact ⟨⟨m + 1, M, false, by omega, by go_num, rfl, Lib.hid HW2.out.symm, by omega, Lib.hid (by rw [HQ.out, HM.out]), ownsRow_below hOv hb4, hBv.trans (hb4.mono hBv.size), kp4⟩, by simp [intOf]; omega⟩
            · have HQ := Lib.hid (sp_no (xs := xs) (k := m) (by rw [HS]; rfl))
              have HW2 : Hid (wtAt xs (m + 1) = true) := Lib.hid (by rw [HT]; rfl)
              rw [show fenceB ⟨3, xr, xsS, xn⟩ = false from rfl] at hF
              have HF := Lib.hid hF
              clear hF HT HS
              go_wp2_with fail
              refine (HF.out _).mono ?_
              rintro e w4 ⟨rfl, hb4⟩
              have k4 := k2.below hb4 k2.lt
              have kp4 := kv.below hb4 kv.lt
              obtain ⟨hn0, -⟩ := k4.at_ 0 rfl
              go_wp2_with fail
              exact ⟨⟨m + 1, M, true, by omega, by go_num, rfl, Lib.hid HW2.out.symm, by omega, Lib.hid (by rw [HQ.out, HM.out]), ownsRow_below hOv hb4, hBv.trans (hb4.mono hBv.size), kp4⟩, by simp [intOf]; omega⟩
            · have HQ := Lib.hid (sp_no (xs := xs) (k := m) (by rw [HS]; simp [h2]))
              have HW2 : Hid (wtAt xs (m + 1) = false) := Lib.hid (by rw [HT, if_neg h3, if_pos (.inl hfb)])
              rw [hfb] at hF
              have e2 : (xo == 2) = false := by simp [h2]
              have e3 : (xo == 3) = false := by simp [h3]
              have HF := Lib.hid hF
              clear hF HT HS
              go_wp2_with fail
              refine (HF.out _).mono ?_
              rintro e w4 ⟨rfl, hb4⟩
              have k4 := k2.below hb4 k2.lt
              have kp4 := kv.below hb4 kv.lt
              obtain ⟨hn0, -⟩ := k4.at_ 0 rfl
              go_wp2_with fail
              exact ⟨⟨m + 1, M, false, by omega, by go_num, rfl, Lib.hid HW2.out.symm, by omega, Lib.hid (by rw [HQ.out, HM.out]), ownsRow_below hOv hb4, hBv.trans (hb4.mono hBv.size), kp4⟩, by simp [intOf]; omega⟩
            · have HQ := Lib.hid (sp_no (xs := xs) (k := m) (by rw [HS]; rfl))
              have HW2 : Hid (wtAt xs (m + 1) = false) := Lib.hid (by rw [HT]; rfl)
              rw [show fenceB ⟨6, xr, xsS, xn⟩ = false from rfl] at hF
              have HF := Lib.hid hF
              clear hF HT HS
              go_wp2_with fail
              refine (HF.out _).mono ?_
              rintro e w4 ⟨rfl, hb4⟩
              have k4 := k2.below hb4 k2.lt
              have kp4 := kv.below hb4 kv.lt
              obtain ⟨hn0, -⟩ := k4.at_ 0 rfl
              go_wp2_with fail
              exact ⟨⟨m + 1, M, false, by omega, by go_num, rfl, Lib.hid HW2.out.symm, by omega, Lib.hid (by rw [HQ.out, HM.out]), ownsRow_below hOv hb4, hBv.trans (hb4.mono hBv.size), kp4⟩, by simp [intOf]; omega⟩
            · have HQ := Lib.hid (sp_no (xs := xs) (k := m) (by rw [HS]; simp [h2]))
              have HW2 : Hid (wtAt xs (m + 1) = wt) := Lib.hid (by rw [HT, if_neg h3, if_neg (by rw [hfb]; simp [h6])])
              rw [hfb] at hF
              have e2 : (xo == 2) = false := by simp [h2]
              have e3 : (xo == 3) = false := by simp [h3]
              have e6 : (xo == 6) = false := by simp [h6]
              have HF := Lib.hid hF
              clear hF HT HS
              go_wp2_with fail
              refine (HF.out _).mono ?_
              rintro e w4 ⟨rfl, hb4⟩
              have k4 := k2.below hb4 k2.lt
              have kp4 := kv.below hb4 kv.lt
              obtain ⟨hn0, -⟩ := k4.at_ 0 rfl
              go_wp2_with fail
              exact ⟨⟨m + 1, M, wt, by omega, by go_num, rfl, Lib.hid HW2.out.symm, by omega, Lib.hid (by rw [HQ.out, HM.out]), ownsRow_below hOv hb4, hBv.trans (hb4.mono hBv.size), kp4⟩, by simp [intOf]; omega⟩
          · obtain rfl : m = xs.length := by omega
            have HNN : Hid (M = spX p.x (k + 1)) := Lib.hid (by rw [HM.out, spX_snoc HX.out])
            clear hrx
            go_wp2_with fail
            exact ⟨⟨k + 1, M, by omega, by go_num, by omega, HNN, hOq, hBq, kq⟩, by simp [intOf]; omega⟩
      · obtain rfl : k = p.x.length := by omega
        obtain ⟨bs, h1, h2⟩ := Own.of_owns hO
        clear hcell hr hin
        go_wp2_with fail
        go_ret
        exact ⟨_, bs, rfl, by rw [HV.out, ← HL.out]; exact h1, fun b hb => Nat.le_of_succ_le (h2 b hb), hB⟩
def RetRowI (L : List Int) (w : World) (e : Ending) (w' : World) : Prop := ∃ r, e = .returned r ∧ w'.ownsRow w.heap.size 3 1 r L.length (ints L) ∧ Below w.heap.size w w'
theorem sp_yesI {xs : List Ins} {k : Nat} (h : spB xs k = true) : spIn xs (k + 1) = spIn xs k ++ [(k : Int)] := by
  rw [spIn_snoc, h]
  rfl
set_option maxHeartbeats 6400000 in
theorem impl_spotsIn (v : Value) (xs : List Ins) (w : World) (h : Rd w v 4 xs.length (flc xs)) (hsz : xs.length ≤ 16) :
    Calls Try.prog 60 #[v] w (RetRowI (spIn xs xs.length) w) := by
  obtain ⟨A, c, rfl, -, hnc, hc, hr⟩ := h
  unfold maxLen at hc
  obtain ⟨i, hi, hiz0, hiz1, hiz2⟩ := info_parts infoInt
  go_enter Try.func60, Try.ntmps60
  go_wp2_with fail
  go_loopw [3, 4, 5, 9] (fun vo wv _ j wr => ∃ (m : Nat) (M : List Int) (wt : Bool), m ≤ xs.length ∧ j = .int .i64 m ∧ wv = .bool wt ∧ Hid (wt = wtAt xs m) ∧ M.length ≤ m ∧ Hid (M = spIn xs m) ∧
    wr.ownsRow w.heap.size 3 1 vo M.length (ints M) ∧ Below w.heap.size w wr) (fun _ _ _ j _ => xs.length - (intOf j).toNat)
  case atStart => exact ⟨0, [], false, Nat.zero_le _, rfl, rfl, Lib.hid rfl, Nat.le_refl _, Lib.hid (by simp [spIn]), World.ownsRow_nil _ _ _ _, Below.refl _ _⟩
  case round =>
    obtain ⟨m, M, wt, hm, rfl, rfl, HWT, hM, HM, hOq, hBq⟩ := hrel
    by_cases hmlt : m < xs.length
    · obtain ⟨b2, o2, rfl, hb2, hcell2⟩ := hr (by omega)
      obtain ⟨x, hxm, hx0, hx1, hx2, hx3⟩ := ins_at (fun j u hu => (hBq.cell (p := ⟨b2, o2 + j, none⟩) hb2).trans (hcell2 j u hu)) hmlt
      obtain ⟨xo, xr, xsS, xn⟩ := x
      simp only at hx0 hx1 hx2 hx3
      have k2 := Bk.new wr #[.int .i64 xo, .int .i64 xr, .int .i64 xsS, .int .i64 xn] 74
      have hOv := hOq.alloc (.cells #[.int .i64 xo, .int .i64 xr, .int .i64 xsS, .int .i64 xn] 74)
      have hBv := hBq.alloc (Nat.le_trans hBq.size (Nat.le_refl _)) (.cells #[.int .i64 xo, .int .i64 xr, .int .i64 xsS, .int .i64 xn] 74)
      obtain ⟨AO, cO, rfl, hcO, hcOm⟩ := owns_slice hOq
      have HT := wtAt_snoc hxm.out
      have HS := spB_at hxm.out
      rw [← HWT.out] at HT HS
      simp only at HT HS
      have HF := Lib.hid (impl_HasFence ⟨xo, xr, xsS, xn⟩)
      have hF := HF.out
      have HO := Lib.hid fun W : World => ins_op ⟨xo, xr, xsS, xn⟩ W
      obtain ⟨wv, hwv⟩ : ∃ wv, wr.alloc (.cells #[.int .i64 xo, .int .i64 xr, .int .i64 xsS, .int .i64 xn] 74) = wv := ⟨_, rfl⟩
      rw [hwv] at k2 hOv hBv
      have HWV := Lib.hid hwv
      have l2 := k2.lt
      clear hwv hcell2 hr hOq
      have hcase : (xo = 2 ∧ wt = true) ∨ (xo = 2 ∧ wt = false) ∨ xo = 3 ∨ (xo ≠ 2 ∧ xo ≠ 3 ∧ fenceB ⟨xo, xr, xsS, xn⟩ = true) ∨ xo = 6 ∨ (xo ≠ 2 ∧ xo ≠ 3 ∧ xo ≠ 6 ∧ fenceB ⟨xo, xr, xsS, xn⟩ = false) := by
        have h2 : xo = 2 → fenceB ⟨xo, xr, xsS, xn⟩ = false := fun h => by subst h; rfl
        have h3 : xo = 3 → fenceB ⟨xo, xr, xsS, xn⟩ = false := fun h => by subst h; rfl
        cases wt <;> cases fenceB ⟨xo, xr, xsS, xn⟩ <;> simp at h2 h3 ⊢ <;> omega
      go_upto_region 6 with (fail)
      rw [HWV.out]
      clear hx0 hx1 hx2 hx3
      obtain ⟨hk0, -⟩ := k2.at_ 0 rfl
      obtain ⟨hk1, -⟩ := k2.at_ 1 rfl
      obtain ⟨hk2, -⟩ := k2.at_ 2 rfl
      obtain ⟨hk3, -⟩ := k2.at_ 3 rfl
      rcases hcase with ⟨rfl, rfl⟩ | ⟨rfl, rfl⟩ | rfl | ⟨h2, h3, hfb⟩ | rfl | ⟨h2, h3, h6, hfb⟩
      · have HQ := Lib.hid (sp_yesI (xs := xs) (k := m) HS)
        have HW2 : Hid (wtAt xs (m + 1) = true) := Lib.hid (by rw [HT]; rfl)
        rw [show fenceB ⟨2, xr, xsS, xn⟩ = false from rfl] at hF
        have HF2 := Lib.hid hF
        clear hF HT HS
        go_wp2_with fail
        refine (HO.out _).mono ?_
        rintro e w3 ⟨rfl, hb3⟩
        have k3 := k2.below hb3 k2.lt
        clear hk0 hk1 hk2 hk3
        obtain ⟨hk0, -⟩ := k3.at_ 0 rfl
        obtain ⟨hk1, -⟩ := k3.at_ 1 rfl
        obtain ⟨hk2, -⟩ := k3.at_ 2 rfl
        obtain ⟨hk3, -⟩ := k3.at_ 3 rfl
        go_wp2_with fail
        refine (HF2.out _).mono ?_
        rintro e w4 ⟨rfl, hb4⟩
        have k4 := k3.below hb4 k3.lt
        clear hk0 hk1 hk2 hk3
        obtain ⟨hk0, -⟩ := k4.at_ 0 rfl
        obtain ⟨hk1, -⟩ := k4.at_ 1 rfl
        obtain ⟨hk2, -⟩ := k4.at_ 2 rfl
        obtain ⟨hk3, -⟩ := k4.at_ 3 rfl
        go_wp2_with fail
        refine (HO.out _).mono ?_
        rintro e w5 ⟨rfl, hb5⟩
        have k5 := k4.below hb5 k4.lt
        clear hk0 hk1 hk2 hk3
        obtain ⟨hk0, -⟩ := k5.at_ 0 rfl
        obtain ⟨hk1, -⟩ := k5.at_ 1 rfl
        obtain ⟨hk2, -⟩ := k5.at_ 2 rfl
        obtain ⟨hk3, -⟩ := k5.at_ 3 rfl
        go_wp2_with fail
        refine (HO.out _).mono ?_
        rintro e w6 ⟨rfl, hb6⟩
        have k6 := k5.below hb6 k5.lt
        clear hk0 hk1 hk2 hk3
        obtain ⟨hk0, -⟩ := k6.at_ 0 rfl
        obtain ⟨hk1, -⟩ := k6.at_ 1 rfl
        obtain ⟨hk2, -⟩ := k6.at_ 2 rfl
        obtain ⟨hk3, -⟩ := k6.at_ 3 rfl
        have hO6 := ownsRow_below (ownsRow_below (ownsRow_below (ownsRow_below hOv hb3) hb4) hb5) hb6
        have hB3 := hBv.trans (hb3.mono hBv.size)
        have hB4 := hB3.trans (hb4.mono hB3.size)
        have hB5 := hB4.trans (hb5.mono hB4.size)
        have hB6 := hB5.trans (hb6.mono hB5.size)
        clear hB3 hB4 hB5 hb3 hb4 hb5 hb6 k2 k3 k4 k5 k6 hk0 hk1 hk2 hk3
        go_wp2_with (at_builtin; refine wpList_append_own _ rfl _ _ 71 rfl (w.heap.size) 3 i (.int .i64 0) 1 8 Try.underlying71 hi hiz0 hiz1 hiz2 rfl (by decide) _ _ _ rfl (hO6.alloc _) ⟨w6.heap.size, 0, none⟩ 1 1 [.int .i64 m] rfl rfl (new_cells _ _ _) (by simp [Value.oneCell']) (by unfold maxLen; omega) (by omega) (by have := hB6.size; simp; omega) ?_)
        intro vo7 w7 ho7 hg7 _
        have hB7 := (hB6.alloc hB6.size _).grown hg7 (by have := hB6.size; simp; omega) (fun k hk => by have := (hO6.lt k hk).1; omega)
        have ho8 := owns_snoc ho7
        go_wp2_with fail
        exact ⟨⟨m + 1, M ++ [(m : Int)], true, by omega, by go_num, rfl, Lib.hid HW2.out.symm, by simp; omega, Lib.hid (by rw [HQ.out, HM.out]), ho8, hB7⟩, by simp [intOf]; omega⟩
      · have HQ := Lib.hid (sp_no (xs := xs) (k := m) (by rw [HS]; rfl))
        have HW2 : Hid (wtAt xs (m + 1) = false) := Lib.hid (by rw [HT]; rfl)
        rw [show fenceB ⟨2, xr, xsS, xn⟩ = false from rfl] at hF
        have HF2 := Lib.hid hF
        clear hF HT HS
        go_wp2_with fail
        refine (HO.out _).mono ?_
        rintro e w3 ⟨rfl, hb3⟩
        have k3 := k2.below hb3 k2.lt
        clear hk0 hk1 hk2 hk3
        obtain ⟨hk0, -⟩ := k3.at_ 0 rfl
        obtain ⟨hk1, -⟩ := k3.at_ 1 rfl
        obtain ⟨hk2, -⟩ := k3.at_ 2 rfl
        obtain ⟨hk3, -⟩ := k3.at_ 3 rfl
        go_wp2_with fail
        refine (HF2.out _).mono ?_
        rintro e w4 ⟨rfl, hb4⟩
        have k4 := k3.below hb4 k3.lt
        clear hk0 hk1 hk2 hk3
        obtain ⟨hk0, -⟩ := k4.at_ 0 rfl
        obtain ⟨hk1, -⟩ := k4.at_ 1 rfl
        obtain ⟨hk2, -⟩ := k4.at_ 2 rfl
        obtain ⟨hk3, -⟩ := k4.at_ 3 rfl
        go_wp2_with fail
        refine (HO.out _).mono ?_
        rintro e w5 ⟨rfl, hb5⟩
        have k5 := k4.below hb5 k4.lt
        clear hk0 hk1 hk2 hk3
        obtain ⟨hk0, -⟩ := k5.at_ 0 rfl
        obtain ⟨hk1, -⟩ := k5.at_ 1 rfl
        obtain ⟨hk2, -⟩ := k5.at_ 2 rfl
        obtain ⟨hk3, -⟩ := k5.at_ 3 rfl
        go_wp2_with fail
        refine (HO.out _).mono ?_
        rintro e w6 ⟨rfl, hb6⟩
        have k6 := k5.below hb6 k5.lt
        clear hk0 hk1 hk2 hk3
        obtain ⟨hk0, -⟩ := k6.at_ 0 rfl
        obtain ⟨hk1, -⟩ := k6.at_ 1 rfl
        obtain ⟨hk2, -⟩ := k6.at_ 2 rfl
        obtain ⟨hk3, -⟩ := k6.at_ 3 rfl
        go_wp2_with fail
        exact ⟨⟨m + 1, M, false, by omega, by go_num, rfl, Lib.hid HW2.out.symm, by omega, Lib.hid (by rw [HQ.out, HM.out]), ownsRow_below (ownsRow_below (ownsRow_below (ownsRow_below (hOv) hb3) hb4) hb5) hb6, ((((hBv).trans (hb3.mono (hBv).size)).trans (hb4.mono ((hBv).trans (hb3.mono (hBv).size)).size)).trans (hb5.mono (((hBv).trans (hb3.mono (hBv).size)).trans (hb4.mono ((hBv).trans (hb3.mono (hBv).size)).size)).size)).trans (hb6.mono ((((hBv).trans (hb3.mono (hBv).size)).trans (hb4.mono ((hBv).trans (hb3.mono (hBv).size)).size)).trans (hb5.mono (((hBv).trans (hb3.mono (hBv).size)).trans (hb4.mono ((hBv).trans (hb3.mono (hBv).size)).size)).size)).size)⟩, by simp [intOf]; omega⟩
      · have HQ := Lib.hid (sp_no (xs := xs) (k := m) (by rw [HS]; rfl))
        have HW2 : Hid (wtAt xs (m + 1) = true) := Lib.hid (by rw [HT]; rfl)
        rw [show fenceB ⟨3, xr, xsS, xn⟩ = false from rfl] at hF
        have HF2 := Lib.hid hF
        clear hF HT HS
        go_wp2_with fail
        refine (HO.out _).mono ?_
        rintro e w3 ⟨rfl, hb3⟩
        have k3 := k2.below hb3 k2.lt
        clear hk0 hk1 hk2 hk3
        obtain ⟨hk0, -⟩ := k3.at_ 0 rfl
        obtain ⟨hk1, -⟩ := k3.at_ 1 rfl
        obtain ⟨hk2, -⟩ := k3.at_ 2 rfl
        obtain ⟨hk3, -⟩ := k3.at_ 3 rfl
        go_wp2_with fail
        exact ⟨⟨m + 1, M, true, by omega, by go_num, rfl, Lib.hid HW2.out.symm, by omega, Lib.hid (by rw [HQ.out, HM.out]), ownsRow_below (hOv) hb3, (hBv).trans (hb3.mono (hBv).size)⟩, by simp [intOf]; omega⟩
      · have HQ := Lib.hid (sp_no (xs := xs) (k := m) (by rw [HS]; simp [h2]))
        have HW2 : Hid (wtAt xs (m + 1) = false) := Lib.hid (by rw [HT, if_neg h3, if_pos (.inl hfb)])
        rw [hfb] at hF
        have e2 : (xo == 2) = false := by simp [h2]
        have e3 : (xo == 3) = false := by simp [h3]
        have HF2 := Lib.hid hF
        clear hF HT HS
        go_wp2_with fail
        refine (HO.out _).mono ?_
        rintro e w3 ⟨rfl, hb3⟩
        have k3 := k2.below hb3 k2.lt
        clear hk0 hk1 hk2 hk3
        obtain ⟨hk0, -⟩ := k3.at_ 0 rfl
        obtain ⟨hk1, -⟩ := k3.at_ 1 rfl
        obtain ⟨hk2, -⟩ := k3.at_ 2 rfl
        obtain ⟨hk3, -⟩ := k3.at_ 3 rfl
        go_wp2_with fail
        refine (HF2.out _).mono ?_
        rintro e w4 ⟨rfl, hb4⟩
        have k4 := k3.below hb4 k3.lt
        clear hk0 hk1 hk2 hk3
        obtain ⟨hk0, -⟩ := k4.at_ 0 rfl
        obtain ⟨hk1, -⟩ := k4.at_ 1 rfl
        obtain ⟨hk2, -⟩ := k4.at_ 2 rfl
        obtain ⟨hk3, -⟩ := k4.at_ 3 rfl
        go_wp2_with fail
        exact ⟨⟨m + 1, M, false, by omega, by go_num, rfl, Lib.hid HW2.out.symm, by omega, Lib.hid (by rw [HQ.out, HM.out]), ownsRow_below (ownsRow_below (hOv) hb3) hb4, ((hBv).trans (hb3.mono (hBv).size)).trans (hb4.mono ((hBv).trans (hb3.mono (hBv).size)).size)⟩, by simp [intOf]; omega⟩
      · have HQ := Lib.hid (sp_no (xs := xs) (k := m) (by rw [HS]; rfl))
        have HW2 : Hid (wtAt xs (m + 1) = false) := Lib.hid (by rw [HT]; rfl)
        rw [show fenceB ⟨6, xr, xsS, xn⟩ = false from rfl] at hF
        have HF2 := Lib.hid hF
        clear hF HT HS
        go_wp2_with fail
        refine (HO.out _).mono ?_
        rintro e w3 ⟨rfl, hb3⟩
        have k3 := k2.below hb3 k2.lt
        clear hk0 hk1 hk2 hk3
        obtain ⟨hk0, -⟩ := k3.at_ 0 rfl
        obtain ⟨hk1, -⟩ := k3.at_ 1 rfl
        obtain ⟨hk2, -⟩ := k3.at_ 2 rfl
        obtain ⟨hk3, -⟩ := k3.at_ 3 rfl
        go_wp2_with fail
        refine (HF2.out _).mono ?_
        rintro e w4 ⟨rfl, hb4⟩
        have k4 := k3.below hb4 k3.lt
        clear hk0 hk1 hk2 hk3
        obtain ⟨hk0, -⟩ := k4.at_ 0 rfl
        obtain ⟨hk1, -⟩ := k4.at_ 1 rfl
        obtain ⟨hk2, -⟩ := k4.at_ 2 rfl
        obtain ⟨hk3, -⟩ := k4.at_ 3 rfl
        go_wp2_with fail
        refine (HO.out _).mono ?_
        rintro e w5 ⟨rfl, hb5⟩
        have k5 := k4.below hb5 k4.lt
        clear hk0 hk1 hk2 hk3
        obtain ⟨hk0, -⟩ := k5.at_ 0 rfl
        obtain ⟨hk1, -⟩ := k5.at_ 1 rfl
        obtain ⟨hk2, -⟩ := k5.at_ 2 rfl
        obtain ⟨hk3, -⟩ := k5.at_ 3 rfl
        go_wp2_with fail
        exact ⟨⟨m + 1, M, false, by omega, by go_num, rfl, Lib.hid HW2.out.symm, by omega, Lib.hid (by rw [HQ.out, HM.out]), ownsRow_below (ownsRow_below (ownsRow_below (hOv) hb3) hb4) hb5, (((hBv).trans (hb3.mono (hBv).size)).trans (hb4.mono ((hBv).trans (hb3.mono (hBv).size)).size)).trans (hb5.mono (((hBv).trans (hb3.mono (hBv).size)).trans (hb4.mono ((hBv).trans (hb3.mono (hBv).size)).size)).size)⟩, by simp [intOf]; omega⟩
      · have HQ := Lib.hid (sp_no (xs := xs) (k := m) (by rw [HS]; simp [h2]))
        have HW2 : Hid (wtAt xs (m + 1) = wt) := Lib.hid (by rw [HT, if_neg h3, if_neg (by rw [hfb]; simp [h6])])
        rw [hfb] at hF
        have e2 : (xo == 2) = false := by simp [h2]
        have e3 : (xo == 3) = false := by simp [h3]
        have e6 : (xo == 6) = false := by simp [h6]
        have HF2 := Lib.hid hF
        clear hF HT HS
        go_wp2_with fail
        refine (HO.out _).mono ?_
        rintro e w3 ⟨rfl, hb3⟩
        have k3 := k2.below hb3 k2.lt
        clear hk0 hk1 hk2 hk3
        obtain ⟨hk0, -⟩ := k3.at_ 0 rfl
        obtain ⟨hk1, -⟩ := k3.at_ 1 rfl
        obtain ⟨hk2, -⟩ := k3.at_ 2 rfl
        obtain ⟨hk3, -⟩ := k3.at_ 3 rfl
        go_wp2_with fail
        refine (HF2.out _).mono ?_
        rintro e w4 ⟨rfl, hb4⟩
        have k4 := k3.below hb4 k3.lt
        clear hk0 hk1 hk2 hk3
        obtain ⟨hk0, -⟩ := k4.at_ 0 rfl
        obtain ⟨hk1, -⟩ := k4.at_ 1 rfl
        obtain ⟨hk2, -⟩ := k4.at_ 2 rfl
        obtain ⟨hk3, -⟩ := k4.at_ 3 rfl
        go_wp2_with fail
        refine (HO.out _).mono ?_
        rintro e w5 ⟨rfl, hb5⟩
        have k5 := k4.below hb5 k4.lt
        clear hk0 hk1 hk2 hk3
        obtain ⟨hk0, -⟩ := k5.at_ 0 rfl
        obtain ⟨hk1, -⟩ := k5.at_ 1 rfl
        obtain ⟨hk2, -⟩ := k5.at_ 2 rfl
        obtain ⟨hk3, -⟩ := k5.at_ 3 rfl
        go_wp2_with fail
        refine (HO.out _).mono ?_
        rintro e w6 ⟨rfl, hb6⟩
        have k6 := k5.below hb6 k5.lt
        clear hk0 hk1 hk2 hk3
        obtain ⟨hk0, -⟩ := k6.at_ 0 rfl
        obtain ⟨hk1, -⟩ := k6.at_ 1 rfl
        obtain ⟨hk2, -⟩ := k6.at_ 2 rfl
        obtain ⟨hk3, -⟩ := k6.at_ 3 rfl
        go_wp2_with fail
        exact ⟨⟨m + 1, M, wt, by omega, by go_num, rfl, Lib.hid HW2.out.symm, by omega, Lib.hid (by rw [HQ.out, HM.out]), ownsRow_below (ownsRow_below (ownsRow_below (ownsRow_below (hOv) hb3) hb4) hb5) hb6, ((((hBv).trans (hb3.mono (hBv).size)).trans (hb4.mono ((hBv).trans (hb3.mono (hBv).size)).size)).trans (hb5.mono (((hBv).trans (hb3.mono (hBv).size)).trans (hb4.mono ((hBv).trans (hb3.mono (hBv).size)).size)).size)).trans (hb6.mono ((((hBv).trans (hb3.mono (hBv).size)).trans (hb4.mono ((hBv).trans (hb3.mono (hBv).size)).size)).trans (hb5.mono (((hBv).trans (hb3.mono (hBv).size)).trans (hb4.mono ((hBv).trans (hb3.mono (hBv).size)).size)).size)).size)⟩, by simp [intOf]; omega⟩
    · obtain rfl : m = xs.length := by omega
      clear hr
      go_wp2_with fail
      go_ret
      exact ⟨_, rfl, by rw [← HM.out]; exact hOq, hBq⟩
theorem tagS_snoc {L : List Int} {t j : Nat} {x : Int} (h : L[j]? = some x) : tagS t (L.take (j + 1)) = tagS t (L.take j) ++ [⟨(t : Int), x⟩] := by
  rw [List.take_add_one, h, tagS_app]
  rfl
set_option maxHeartbeats 6400000 in
theorem impl_SpotsOf (v : Value) (p : Pr) (w : World) (h : RdSS w v p.x) :
    Calls Try.prog 25 #[.agg #[.int .i64 p.c, v]] w (RetSpots (spF p) w) := by
  obtain ⟨vs, ⟨A, c, rfl, -, hnc, hc, hr⟩, hin⟩ := id h
  unfold maxLen at hc
  obtain ⟨i, hi, hiz0, hiz1, hiz2⟩ := info_parts infoSpot
  have hB0 := (Below.refl w.heap.size w).alloc (Nat.le_refl _) (.cells #[.int .i64 p.c, .slice A p.x.length c] 33)
  have k0 := Bk.new w #[.int .i64 p.c, .slice A p.x.length c] 33
  have hC := impl_ProgOk _ p _ (h.below hB0)
  have l0 := k0.lt
  obtain ⟨hq0, -⟩ := k0.at_ 0 (x := .int .i64 p.c) rfl
  obtain ⟨hq1, -⟩ := k0.at_ 1 (x := .slice A p.x.length c) rfl
  clear h
  cases hok : progOkF p
  · have HV := Lib.hid (spF_no hok)
    rw [hok] at hC
    have HC := Lib.hid hC
    clear hC hok hr hin k0
    go_enter Try.func25, Try.ntmps25
    go_wp2_with fail
    refine HC.out.mono ?_
    rintro e w1 ⟨rfl, hb1⟩
    go_wp2_with fail
    go_ret
    exact ⟨_, [], rfl, by rw [HV.out]; exact Own.nil _ _, by simp, hB0.trans (hb1.mono hB0.size)⟩
  · have HV := Lib.hid (spF_yes hok)
    have HOK := Lib.hid hok
    have hpl := (progOk_parts hok).2.1
    obtain ⟨b, o, rfl, hb, hcell⟩ := hr (by omega)
    rw [hok] at hC
    have HC := Lib.hid hC
    clear hC hok
    go_enter Try.func25, Try.ntmps25
    go_wp2_with fail
    refine HC.out.mono ?_
    rintro e w1 ⟨rfl, hb1⟩
    have k1 := k0.below hb1 l0
    have hB1 := hB0.trans (hb1.mono hB0.size)
    clear hq0 hq1 hb1
    obtain ⟨hz1, -⟩ := k1.at_ 1 (x := .slice (some ⟨b, o, none⟩) p.x.length c) rfl
    go_wp2_with fail
    clear hz1
    go_loopw [3, 4, 5, 14] (fun vo _ _ i wr => ∃ (k : Nat) (L : List P2), k ≤ p.x.length ∧ i = .int .i64 k ∧ L.length ≤ 16 * k ∧ Hid (L = spX p.x k) ∧ wr.ownsRow w.heap.size 29 2 vo L.length (flc2 L) ∧ Below w.heap.size w wr) (fun _ _ _ i _ => p.x.length - (intOf i).toNat)
    case atStart => exact ⟨0, [], Nat.zero_le _, rfl, Nat.le_refl _, Lib.hid rfl, World.ownsRow_nil _ _ _ _, hB1⟩
    case round =>
      obtain ⟨k, L, hk, rfl, hL, HL, hO, hB⟩ := hrel
      clear hB1 k1 k0 hB0
      obtain ⟨AO, cO, rfl, hcO, hcOm⟩ := owns_slice hO
      by_cases hlt : k < p.x.length
      · obtain ⟨xs, hxk⟩ : ∃ xs, p.x[k]? = some xs := ⟨_, List.getElem?_eq_getElem hlt⟩
        obtain ⟨ck, hck, hrk⟩ := hin.at_ hxk
        have hx16 := codeOk_len ((progOk_parts HOK.out).2.2 xs (List.mem_of_getElem? hxk))
        have hq2 := (hB.cell (p := ⟨b, o + k, none⟩) hb).trans (hcell k _ hck)
        have hrk2 := hrk.below hB
        obtain ⟨Ak, dk, rfl, -, -, -, -⟩ := id hrk2
        have HI := Lib.hid (impl_spotsIn _ xs _ hrk2 hx16)
        have HX := Lib.hid hxk
        have hil := spIn_len xs xs.length
        obtain ⟨S, hS⟩ : ∃ S, spIn xs xs.length = S := ⟨_, rfl⟩
        rw [hS] at HI hil
        have HSS := Lib.hid hS
        clear hr hxk hrk hcell hin hrk2 hS hck
        go_wp2_with fail
        refine HI.out.mono ?_
        rintro e w2 ⟨r, rfl, hI2, hb2⟩
        obtain ⟨AI, cI, rfl, hcI, hcIm⟩ := owns_slice hI2
        have hO2 := ownsRow_below hO hb2
        have hB2 := hB.trans (hb2.mono hB.size)
        have hI3 := owns_mono hI2 hB.size
        clear hO hB hb2 hI2 hq2
        go_wp2_with fail
        go_loopw [3, 7, 22] (fun vo _ j wr => ∃ (m : Nat) (M : List P2), m ≤ S.length ∧ j = .int .i64 m ∧ M.length ≤ 16 * k + m ∧ Hid (M = spX p.x k ++ tagS k (S.take m)) ∧
          wr.ownsRow w.heap.size 29 2 vo M.length (flc2 M) ∧ wr.ownsRow w.heap.size 3 1 (.slice AI S.length cI) S.length (ints S) ∧ Below w.heap.size w wr) (fun _ _ j _ => S.length - (intOf j).toNat)
        case atStart => exact ⟨0, L, Nat.zero_le _, rfl, hL, Lib.hid (by rw [HL.out]; simp [tagS]), hO2, hI3, hB2⟩
        case round =>
          obtain ⟨m, M, hm, rfl, hM, HM, hOq, hIq, hBq⟩ := hrel
          clear hO2 hI3 hB2
          obtain ⟨AP, cP, rfl, hcP, hcPm⟩ := owns_slice hOq
          by_cases hmlt : m < S.length
          · obtain ⟨g, rfl⟩ := owns_formS hIq (by omega)
            obtain ⟨y, hy⟩ : ∃ y, S[m]? = some y := ⟨_, List.getElem?_eq_getElem hmlt⟩
            have hyc : wr.cell? ⟨g, m, none⟩ = some (.int .i64 y) := (hIq.cellAt m (by omega)).trans (by simp [ints, hy])
            have HY := Lib.hid (tagS_snoc (t := k) hy)
            clear hy
            go_wp2_with (at_builtin; refine wpList_append_own _ rfl _ _ 41 rfl (w.heap.size) 29 i (.agg #[.int .i64 0, .int .i64 0]) 2 16 Try.underlying41 hi hiz0 hiz1 hiz2 rfl (by decide) _ _ _ rfl (hOq.alloc _) ⟨wr.heap.size, 0, none⟩ 1 1 [.int .i64 k, .int .i64 y] rfl rfl (new_cells _ _ _) (by simp [Value.oneCell']) (by unfold maxLen; omega) (by omega) (by have := hBq.size; simp; omega) ?_)
            intro vo3 w3 ho3 hg3 _
            have hB3 := (hBq.alloc hBq.size _).grown hg3 (by have := hBq.size; simp; omega) (fun k hk => by have := (hOq.lt k hk).1; omega)
            have hI4 := (hIq.alloc (.cells #[.int .i64 k, .int .i64 y] 29)).kept hg3 (own_ne (hIq.alloc (.cells #[.int .i64 k, .int .i64 y] 29)) (hOq.alloc (.cells #[.int .i64 k, .int .i64 y] 29)) (by decide))
            have ho4 := owns_snocP (x := ⟨(k : Int), y⟩) ho3
            go_wp2_with fail
            exact ⟨⟨m + 1, M ++ [⟨(k : Int), y⟩], by omega, by go_num, by simp; omega, Lib.hid (by rw [HY.out, HM.out, List.append_assoc]), ho4, hI4, hB3⟩, by simp [intOf]; omega⟩
          · obtain rfl : m = S.length := by omega
            have HNN : Hid (M = spX p.x (k + 1)) := Lib.hid (by rw [HM.out, spX_snoc HX.out, HSS.out, List.take_length])
            go_wp2_with fail
            exact ⟨⟨k + 1, M, by omega, by go_num, by omega, HNN, hOq, hBq⟩, by simp [intOf]; omega⟩
      · obtain rfl : k = p.x.length := by omega
        obtain ⟨bs, h1, h2⟩ := Own.of_owns hO
        clear hcell hr hin
        go_wp2_with fail
        go_ret
        exact ⟨_, bs, rfl, by rw [HV.out, ← HL.out]; exact h1, h2, hB⟩
end Go.Proofs.Ytgbgjlmkmlhefaa
