/- Contracts of spec.StripFences and spec.PutFences. Conditions: the codes and the list of spots can be read. -/
import Derived.Test.YtgbgjlmkmlhefaaF7
import Derived.Test.YtgbgjlmkmlhefaaS2e
import Derived.Test.YtgbgjlmkmlhefaaMany2
namespace Go.Proofs.Ytgbgjlmkmlhefaa
set_option maxRecDepth 20000
set_option linter.unusedSimpArgs false
set_option linter.unusedVariables false
open Go.ChangeShapes Go.WideShapes Go.ChangeAt Go.RowKit
set_option linter.unusedVariables false
theorem nt_new {w : World} {base : Nat} {T E : TypeId} {v : Value} {n : Nat} {xs : List Value} {bs : List Nat} {s m : Nat} {cs : List Value} (hO : w.ownsRow base E s v n xs) (h : Own w v s m cs bs) (hT : E ≠ T) : NT T w bs := fun b hb => by
  obtain ⟨ds, hd⟩ := owns_bk hO h b hb
  exact ⟨ds, E, hT, hd⟩
theorem strP_at {t : Nat} {xs : List Ins} {k : Nat} {x : Ins} (h : xs[k]? = some x) : strP t xs k = if x.o = 4 then [] else [x] := by
  unfold strP
  rw [h]
  by_cases h4 : x.o = 4 <;> simp [h4]
theorem strP_end (t : Nat) (xs : List Ins) : pcs (strP t xs) (xs.length + 1) = pcs (strP t xs) xs.length := by
  rw [pcs_snoc]
  simp [strP]
theorem pcs_len1 (t : Nat) (xs : List Ins) : ∀ k, (pcs (strP t xs) k).length ≤ k
  | 0 => by simp [pcs]
  | k + 1 => by
    have := pcs_len1 t xs k
    have := strP_len t xs k
    rw [pcs_snoc, List.length_append]
    omega
theorem putP_at {ss : List P2} {t : Nat} {xs : List Ins} {k : Nat} {x : Ins} (h : xs[k]? = some x) : putP ss t xs k = (if hasS ss t k then [fenceI] else []) ++ [x] := by
  unfold putP
  rw [h]
  rfl
theorem putP_end {ss : List P2} {t : Nat} {xs : List Ins} : putP ss t xs xs.length = if hasS ss t xs.length then [fenceI] else [] := by
  unfold putP
  simp
/-- one row more behind a list of rows that are owned -/
theorem row_more {w : World} {us : List Value} {xss : List (List Ins)} {bss : List (List Nat)} {L : List Ins} {AR : Option Addr} {cR lo : Nat} {T E : TypeId} {wo : World} (hI : InSS wo us xss bss) (hN : NT T wo bss.flatten) (hb : Below wo.heap.size wo w)
    (ho : w.ownsRow wo.heap.size E 4 (.slice AR L.length cR) L.length (flc L)) (hE : E ≠ T) (hlo : ∀ b ∈ bss.flatten, lo ≤ b) (hl : lo ≤ wo.heap.size) :
    ∃ bs, InSS w (us ++ [.slice AR L.length cR]) (xss ++ [L]) (bss ++ [bs]) ∧ NT T w (bss ++ [bs]).flatten ∧ ∀ b ∈ (bss ++ [bs]).flatten, lo ≤ b := by
  obtain ⟨bs, h1, h2⟩ := Own.of_owns ho
  have hlt := InSS.lt hI
  have hI' : InSS w us xss bss := InSS.of_blocks hb.size hI (fun b hm => hb.block b (hlt b hm))
  refine ⟨bs, InSS.snoc h1 hI' (fun x hx y hy => by have := hlt x hx; have := h2 y hy; omega), ?_, fun b hm => ?_⟩
  · rw [List.flatten_append]
    refine (hN.below hlt hb).app ?_
    have : [bs].flatten = bs := by simp
    rw [this]
    exact nt_new ho h1 hE
  · rw [List.flatten_append] at hm
    rcases List.mem_append.1 hm with hm | hm
    · exact hlo b hm
    · exact Nat.le_trans hl (h2 b (by simpa using hm))
/-- the rows stay where a row of another type grows and where a cell below them is written -/
theorem rows_stay {w w' : World} {us : List Value} {xss : List (List Ins)} {bss : List (List Nat)} {T : TypeId} {base size n lo : Nat} {v : Value} {cs : List Value} (hI : InSS w us xss bss) (hN : NT T w bss.flatten) (hO : w.ownsRow base T size v n cs) (hg : w.grownBy w' v.ownBlock) (hlo : ∀ b ∈ bss.flatten, lo ≤ b) {g i : Nat} (hgl : g < lo) (u : Value) :
    InSS (w'.setCell ⟨g, i, none⟩ u) us xss bss ∧ NT T (w'.setCell ⟨g, i, none⟩ u) bss.flatten := by
  have hk : ∀ b ∈ bss.flatten, (w'.setCell ⟨g, i, none⟩ u).heap[b]? = w.heap[b]? := fun b hb =>
    (Below.heap_setCell _ _ _ _ (by have := hlo b hb; show b ≠ g; omega)).trans (hg.block b (InSS.lt hI b hb) fun e => hN.ne hO e.symm b hb rfl)
  exact ⟨InSS.of_blocks (by simpa [World.setCell] using hg.size) hI hk, hN.of_blocks hk⟩
set_option maxHeartbeats 12800000 in
theorem spec_StripFences (v : Value) (p : Pr) (w : World) (h : RdSS w v p.x) :
    Calls Try.prog 29 #[.agg #[.int .i64 p.c, v]] w (RetPrB ((strF p).getD ⟨0, []⟩) (strF p).isSome w) := by
  obtain ⟨vs, ⟨A, c, rfl, -, hnc, hc, hr⟩, hin⟩ := id h
  unfold maxLen at hc
  obtain ⟨i, hi, hiz0, hiz1, hiz2⟩ := info_parts infoInt
  obtain ⟨s, hs, hsz0, hsz1, hsz2⟩ := info_parts infoIns
  obtain ⟨q, hq, hqz0, hqz1, hqz2⟩ := info_parts infoCodes
  have k0 := (Bk.new w #[.int .i64 p.c, .slice A p.x.length c] 33).alloc (.cells #[.int .i64 0, .slice none 0 0] 33)
  have k2 := Bk.new (w.alloc (.cells #[.int .i64 p.c, .slice A p.x.length c] 33)) #[.int .i64 0, .slice none 0 0] 33
  have hB0 := ((Below.refl w.heap.size w).alloc (Nat.le_refl _) (.cells #[.int .i64 p.c, .slice A p.x.length c] 33)).alloc (by simp) (.cells #[.int .i64 0, .slice none 0 0] 33)
  simp only [World.size_alloc] at k2
  obtain ⟨W, hW⟩ : ∃ W, (w.alloc (.cells #[.int .i64 p.c, .slice A p.x.length c] 33)).alloc (.cells #[.int .i64 0, .slice none 0 0] 33) = W := ⟨_, rfl⟩
  rw [hW] at k0 k2 hB0
  have hsW : W.heap.size = w.heap.size + 2 := by rw [← hW]; simp
  have HW := Lib.hid hW
  have HB0 := Lib.hid hB0
  have HR := Lib.hid (h.below hB0)
  have HC := spec_ProgOk _ p _ HR.out
  have K0 := Lib.hid k0
  have K2 := Lib.hid k2
  have HSW := Lib.hid hsW
  obtain ⟨c0, -⟩ := k0.at_ 0 (x := .int .i64 p.c) rfl
  obtain ⟨c1, -⟩ := k0.at_ 1 (x := .slice A p.x.length c) rfl
  clear hW k0 k2 hB0 h hsW
  cases hok : progOkF p
  · have HN : Hid (strF p = none) := Lib.hid (by simp [strF, hok])
    rw [hok] at HC
    have HC := Lib.hid HC
    clear hok hr hin
    go_enter Try.func29, Try.ntmps29
    go_upto_region 1 with (fail)
    rw [HW.out]
    go_wp2_with fail
    refine HC.out.mono ?_
    rintro e w1 ⟨rfl, hb1⟩
    have kz := (K2.out.below hb1 K2.out.lt)
    obtain ⟨y0, f0⟩ := kz.at_ 0 (x := .int .i64 0) rfl
    have kza := kz.set_ 0 (.int .i64 0)
    obtain ⟨y1, f1⟩ := kza.at_ 1 (x := .slice none 0 0) rfl
    have kzb := kza.set_ 1 (.slice none 0 0)
    obtain ⟨r0, -⟩ := kzb.at_ 0 (x := .int .i64 0) rfl
    obtain ⟨r1, -⟩ := kzb.at_ 1 (x := .slice none 0 0) rfl
    clear kz kza kzb
    go_wp2_with fail
    exact bodyPost_ret (v := .tuple #[.agg #[.int .i64 0, .slice none 0 0], .bool false]) (by simp [results, Try.results29, go_sem, r0, r1]) rfl ⟨_, [], by rw [HN.out]; rfl, by rw [HN.out]; exact OwnSS.nil _, by simp, ((HB0.out.trans (hb1.mono HB0.out.size)).setCell (p := ⟨w.heap.size + 1, 0, none⟩) (by show w.heap.size ≤ w.heap.size + 1; omega) _).setCell (p := ⟨w.heap.size + 1, 1, none⟩) (by show w.heap.size ≤ w.heap.size + 1; omega) _⟩
  · have HN : Hid (strF p = some (strR p)) := Lib.hid (by simp [strF, hok])
    have HPP := Lib.hid (progOk_parts hok)
    have hpl := HPP.out.2.1
    rw [hok] at HC
    have HC := Lib.hid HC
    obtain ⟨b, o, rfl, hb, hcell⟩ := hr (by omega)
    have HPB : Hid (∀ U : World, Below W.heap.size W U → U.cell? ⟨w.heap.size, 0, none⟩ = some (.int .i64 p.c) ∧ U.cell? ⟨w.heap.size, 1, none⟩ = some (.slice (some ⟨b, o, none⟩) p.x.length c)) := Lib.hid fun U hU =>
      ⟨((K0.out.below hU K0.out.lt).at_ 0 (x := .int .i64 p.c) rfl).1, ((K0.out.below hU K0.out.lt).at_ 1 (x := .slice (some ⟨b, o, none⟩) p.x.length c) rfl).1⟩
    clear hok
    go_enter Try.func29, Try.ntmps29
    go_upto_region 1 with (fail)
    rw [HW.out]
    go_wp2_with fail
    refine HC.out.mono ?_
    rintro e w2 ⟨rfl, hb2⟩
    clear c0 c1
    obtain ⟨c0, c1⟩ := HPB.out _ hb2
    have kg0 := Bk.new w2 #[.int .i64 p.c, .slice none 0 0] 33
    have hBg := (Below.refl w2.heap.size w2).alloc (Nat.le_refl _) (.cells #[.int .i64 p.c, .slice none 0 0] 33)
    have hsw2 := hb2.size
    go_wp2_with fail
    clear c0 c1
    go_loopw [5] (fun j wr => ∃ (k : Nat) (AR : Option Addr) (cR : Nat) (us : List Value) (bss : List (List Nat)), k ≤ p.x.length ∧ j = .int .i64 k ∧ Hid (us.length = k) ∧ wr.ownsRow (w2.heap.size + 1) 57 1 (.slice AR k cR) k us ∧
      InSS wr us (outX strP p.x k) bss ∧ Hid (NT 57 wr bss.flatten ∧ ∀ b ∈ bss.flatten, w2.heap.size + 1 ≤ b) ∧ Below w2.heap.size w2 wr ∧ w2.heap.size + 1 ≤ wr.heap.size ∧ Bk wr w2.heap.size #[.int .i64 p.c, .slice AR k cR] 33) (fun j _ => p.x.length - (intOf j).toNat)
    case atStart => exact ⟨0, none, 0, [], [], Nat.zero_le _, rfl, Lib.hid rfl, World.ownsRow_nil _ _ _ _, trivial, Lib.hid ⟨fun b hb => by simp at hb, by simp⟩, hBg, by simp, kg0⟩
    case round =>
      obtain ⟨k, AR, cR, us, bss, hk, rfl, HL, hO, hI, HBS, hB, hszr, kg⟩ := hrel
      clear kg0 hBg
      have hWr : Below W.heap.size W wr := hb2.trans (hB.mono hsw2)
      obtain ⟨c0, c1⟩ := HPB.out _ hWr
      by_cases hlt : k < p.x.length
      · obtain ⟨xs, hxk⟩ : ∃ xs, p.x[k]? = some xs := ⟨_, List.getElem?_eq_getElem hlt⟩
        obtain ⟨ck, hck, hrk⟩ := hin.at_ hxk
        have hco := HPP.out.2.2 xs (List.mem_of_getElem? hxk)
        have hx16 := codeOk_len hco
        have HTG := Lib.hid (codeOk_tgt hco)
        obtain ⟨Ak, dk, rfl, -, hncx, hcx, hrx⟩ := id hrk
        unfold maxLen at hcx
        have HROW : Hid (∀ U : World, Below W.heap.size W U → U.cell? ⟨b, o + k, none⟩ = some (.slice Ak xs.length dk)) := Lib.hid fun U hU => ((HB0.out.trans (hU.mono HB0.out.size)).cell (p := ⟨b, o + k, none⟩) hb).trans (hcell k _ hck)
        have HX : Hid (∀ (U : World) (m : Nat), Below W.heap.size W U → m < xs.length → ∃ (b2 o2 : Nat) (x : Ins), Ak = some ⟨b2, o2, none⟩ ∧ xs[m]? = some x ∧ Ins4 U b2 (o2 + m * 4) x) := Lib.hid fun U m hU hm => by
          obtain ⟨b2, o2, he, hb2', hcell2⟩ := hrx (by omega)
          have hwU := HB0.out.trans (hU.mono HB0.out.size)
          obtain ⟨x, hxm, h4⟩ := ins_at (fun j u hu => (hwU.cell (p := ⟨b2, o2 + j, none⟩) hb2').trans (hcell2 j u hu)) hm
          exact ⟨b2, o2, x, he, hxm.out, h4⟩
        have HOX := Lib.hid (outX_snoc strP hxk)
        have c2 := HROW.out _ hWr
        have hO0 := owns_newCells wr 74 4
        have hM0 := owns_newCells (wr.alloc (.cells #[] 74)) 3 1
        have hB1 := ((Below.refl wr.heap.size wr).alloc (Nat.le_refl _) (.cells #[] 74)).alloc (by simp) (.cells #[] 3)
        simp only [World.size_alloc] at hM0
        have hO0' := hO0.alloc (.cells #[] 3)
        have hM0' := owns_mono hM0 (Nat.le_succ wr.heap.size)
        clear hxk hck hrk hrx hcell hin hO0 hM0 hco
        go_wp2_with fail
        rename World => wo
        clear c0 c1 c2
        go_loopw [6, 7, 8] (fun vo vm j wr => ∃ (m : Nat) (L : List Ins) (M : List Int), m ≤ xs.length ∧ j = .int .i64 m ∧ L.length ≤ m ∧ Hid (M.length = m) ∧ Hid (L = pcs (strP k xs) m ∧ M = mvs (strP k xs) m) ∧
          wr.ownsRow wo.heap.size 74 4 vo L.length (flc L) ∧ wr.ownsRow wo.heap.size 3 1 vm M.length (ints M) ∧ Below wo.heap.size wo wr) (fun _ _ j _ => xs.length - (intOf j).toNat)
        case atStart => exact ⟨0, [], [], Nat.zero_le _, rfl, Nat.le_refl _, Lib.hid rfl, Lib.hid ⟨rfl, rfl⟩, hO0', hM0', hB1⟩
        case round =>
          obtain ⟨m, L, M, hm, rfl, hL, HM, HLM, hOq, hMq, hBq⟩ := hrel
          clear hO0' hM0' hB1
          have hWq := hWr.trans (hBq.mono hWr.size)
          obtain ⟨c0, c1⟩ := HPB.out _ hWq
          have c2 := HROW.out _ hWq
          obtain ⟨AO, cO, rfl, hcO, hcOm⟩ := owns_slice hOq
          have hMl : M.length ≤ m := by have := HM.out; omega
          by_cases hmlt : m < xs.length
          · obtain ⟨b2, o2, ⟨xo, xr, xsS, xn⟩, rfl, hxm, hx0, hx1, hx2, hx3⟩ := HX.out _ m hWq hmlt
            simp only at hx0 hx1 hx2 hx3
            have HX4 : Hid (∀ U : World, Below W.heap.size W U → Ins4 U b2 (o2 + m * 4) ⟨xo, xr, xsS, xn⟩) := Lib.hid fun U hU => by
              obtain ⟨b3, o3, y, he, hym, h4⟩ := HX.out U m hU hmlt
              injection he with he
              injection he with e1 e2
              subst e1 e2
              have := Option.some.inj (hxm.symm.trans hym)
              subst this
              exact h4
            have HMS := Lib.hid (mvs_snoc (strP k xs) m)
            have HS := Lib.hid (pcs_snoc (strP k xs) m)
            have HA := Lib.hid (strP_at (t := k) hxm)
            clear hxm
            go_wp2_with (at_builtin; refine wpList_append_own _ rfl _ _ 71 rfl (wo.heap.size) 3 i (.int .i64 0) 1 8 Try.underlying71 hi hiz0 hiz1 hiz2 rfl (by decide) _ _ _ rfl (hMq.alloc _) ⟨wr.heap.size, 0, none⟩ 1 1 [.int .i64 L.length] rfl rfl (new_cells _ _ _) (by simp [Value.oneCell']) (by unfold maxLen; omega) (by omega) (by have := hBq.size; simp; omega) ?_)
            intro vm1 w1 hm1 hg1 _
            have hB2 := (hBq.alloc hBq.size _).grown hg1 (by have := hBq.size; simp; omega) (fun k hk => by have := (hMq.lt k hk).1; omega)
            have hO1 := (hOq.alloc (.cells #[.int .i64 L.length] 3)).kept hg1 (own_ne (hOq.alloc (.cells #[.int .i64 L.length] 3)) (hMq.alloc (.cells #[.int .i64 L.length] 3)) (by decide))
            have hm2 := owns_snoc hm1
            have hW2 := hWr.trans (hB2.mono hWr.size)
            clear hx0 hx1 hx2 hx3 c0 c1 c2 hm1 hg1 hOq hMq hBq hWq
            obtain ⟨c0, c1⟩ := HPB.out _ hW2
            have c2 := HROW.out _ hW2
            obtain ⟨hx0, hx1, hx2, hx3⟩ := HX4.out _ hW2
            simp only at hx0 hx1 hx2 hx3
            by_cases h4 : xo = 4
            · subst h4
              have HF : Hid (pcs (strP k xs) (m + 1) = pcs (strP k xs) m) := Lib.hid (by rw [HS.out, HA.out]; simp)
              go_wp2_with fail
              exact ⟨⟨m + 1, L, M ++ [(L.length : Int)], by omega, by go_num, by omega, Lib.hid (by have := HM.out; simp [this]), Lib.hid ⟨by rw [HF.out, HLM.out.1], by rw [HMS.out, HLM.out.1, HLM.out.2]⟩, hO1, hm2, hB2⟩, by simp [intOf]; omega⟩
            · have HF : Hid (pcs (strP k xs) (m + 1) = pcs (strP k xs) m ++ [⟨xo, xr, xsS, xn⟩]) := Lib.hid (by rw [HS.out, HA.out, if_neg h4])
              have e4 : (xo != 4) = true := by simp [h4]
              clear h4
              go_wp2_with (at_builtin; refine wpList_append_own _ rfl _ _ 57 rfl (wo.heap.size) 74 s (.agg #[.int .i64 0, .int .i64 0, .int .i64 0, .int .i64 0]) 4 32 Try.underlying57 hs hsz0 hsz1 hsz2 rfl (by decide) _ _ _ rfl (hO1.alloc _) ⟨w1.heap.size, 0, none⟩ 1 1 [.int .i64 xo, .int .i64 xr, .int .i64 xsS, .int .i64 xn] rfl rfl (new_cells _ _ _) (by simp [Value.oneCell']) (by unfold maxLen; omega) (by omega) (by have := hB2.size; simp; omega) ?_)
              intro vo1 w3 ho1 hg2 _
              have hB3 := (hB2.alloc hB2.size _).grown hg2 (by have := hB2.size; simp; omega) (fun k hk => by have := (hO1.lt k hk).1; omega)
              have ho2 := owns_snocI (x := ⟨xo, xr, xsS, xn⟩) ho1
              have hm3 := (hm2.alloc (.cells #[.int .i64 xo, .int .i64 xr, .int .i64 xsS, .int .i64 xn] 74)).kept hg2 (own_ne (hm2.alloc (.cells #[.int .i64 xo, .int .i64 xr, .int .i64 xsS, .int .i64 xn] 74)) (hO1.alloc (.cells #[.int .i64 xo, .int .i64 xr, .int .i64 xsS, .int .i64 xn] 74)) (by decide))
              go_wp2_with fail
              exact ⟨⟨m + 1, L ++ [⟨xo, xr, xsS, xn⟩], M ++ [(L.length : Int)], by omega, by go_num, by simp; omega, Lib.hid (by have := HM.out; simp [this]), Lib.hid ⟨by rw [HF.out, HLM.out.1], by rw [HMS.out, HLM.out.1, HLM.out.2]⟩, ho2, hm3, hB3⟩, by simp [intOf]; omega⟩
          · obtain rfl : m = xs.length := by omega
            have hMs := mvs_snoc (strP k xs) xs.length
            go_wp2_with (at_builtin; refine wpList_append_own _ rfl _ _ 71 rfl (wo.heap.size) 3 i (.int .i64 0) 1 8 Try.underlying71 hi hiz0 hiz1 hiz2 rfl (by decide) _ _ _ rfl (hMq.alloc _) ⟨wr.heap.size, 0, none⟩ 1 1 [.int .i64 L.length] rfl rfl (new_cells _ _ _) (by simp [Value.oneCell']) (by unfold maxLen; omega) (by omega) (by have := hBq.size; simp; omega) ?_)
            intro vm1 w1 hm1 hg1 _
            have hB2 := (hBq.alloc hBq.size _).grown hg1 (by have := hBq.size; simp; omega) (fun k hk => by have := (hMq.lt k hk).1; omega)
            have hO1 := (hOq.alloc (.cells #[.int .i64 L.length] 3)).kept hg1 (own_ne (hOq.alloc (.cells #[.int .i64 L.length] 3)) (hMq.alloc (.cells #[.int .i64 L.length] 3)) (by decide))
            have hm2 := owns_snoc hm1
            have HLE : Hid (L = pcs (strP k xs) (xs.length + 1)) := Lib.hid (by rw [strP_end]; exact HLM.out.1)
            have hM1e : M ++ [(L.length : Int)] = mvs (strP k xs) (xs.length + 1) := by rw [hMs, HLM.out.1, HLM.out.2]
            obtain ⟨M1, hM1⟩ : ∃ M1, M ++ [(L.length : Int)] = M1 := ⟨_, rfl⟩
            rw [hM1] at hm2 hM1e
            have hM1l : M1.length = xs.length + 1 := by rw [hM1e, mvs_len]
            have HXR : Hid (L.map (retI M1) = rebF (strP k xs) xs.length) := Lib.hid (by rw [HLE.out, hM1e]; rfl)
            have HTL : Hid (∀ i ∈ L, i.o = 6 → 0 ≤ i.n ∧ i.n < M1.length) := Lib.hid fun i hi h6 => by
              rw [HLE.out] at hi
              obtain ⟨j, hj⟩ := pcs_mem hi
              have := strP_tgt HTG.out hj h6
              omega
            have hM16 : M1.length ≤ 17 := by omega
            clear hMs hM1 hM1e hM1l
            obtain ⟨AM, cM, rfl, hcM, hcMm⟩ := owns_slice hm2
            have kgw := kg.below hB2 kg.lt
            have HKEEP := Lib.hid (And.intro hO (And.intro hI (And.intro HBS.out (And.intro hB (And.intro hszr kg)))))
            clear hO hI hB hszr kg hOq hMq hBq c0 c1 c2 kgw hm1 hg1
            go_wp2_with fail
            go_loopw [9] (fun j ws => ∃ z : Nat, z ≤ L.length ∧ j = .int .i64 z ∧ ws.ownsRow wo.heap.size 74 4 (.slice AO L.length cO) L.length (flc (retAt M1 L z)) ∧ ws.ownsRow wo.heap.size 3 1 (.slice AM M1.length cM) M1.length (ints M1) ∧ Below wo.heap.size wo ws) (fun j _ => L.length - (intOf j).toNat)
            case atStart => exact ⟨0, Nat.zero_le _, rfl, by rw [retAt_zero]; exact hO1, hm2, hB2⟩
            case round =>
              obtain ⟨z, hz, rfl, hOr, hMr, hBr⟩ := hrel
              clear hO1 hm2 hB2
              by_cases hzl : z < L.length
              · obtain ⟨g, rfl⟩ := owns_formS hOr (by omega)
                obtain ⟨x, hxm⟩ : ∃ x, L[z]? = some x := ⟨_, List.getElem?_eq_getElem hzl⟩
                have hq := retAt_at (M := M1) hxm
                have hx0 : wr.cell? ⟨g, z * 4, none⟩ = some (.int .i64 x.o) := (hOr.cellAt (z * 4) (by omega)).trans (flc_at hq 0 (by omega))
                have hx3 : wr.cell? ⟨g, z * 4 + 3, none⟩ = some (.int .i64 x.n) := (hOr.cellAt (z * 4 + 3) (by omega)).trans (flc_at hq 3 (by omega))
                have hfz := hOr.frozenAt (z * 4 + 3)
                have HXM := Lib.hid hxm
                clear hxm hq
                by_cases h6 : x.o = 6
                · obtain ⟨xo, xr, xsS, xn⟩ := x
                  simp only at h6
                  subst h6
                  obtain ⟨hn0, hn1⟩ := HTL.out ⟨6, xr, xsS, xn⟩ (List.mem_of_getElem? HXM.out) rfl
                  simp only at hx0 hx3 hn0 hn1
                  obtain ⟨g2, rfl⟩ := owns_formS hMr (by omega)
                  obtain ⟨y, hy⟩ : ∃ y, M1[xn.toNat]? = some y := ⟨_, List.getElem?_eq_getElem (by omega)⟩
                  have hyc : wr.cell? ⟨g2, xn.toNat, none⟩ = some (.int .i64 y) := (hMr.cellAt xn.toNat (by omega)).trans (by simp [ints, hy])
                  have hst := hOr.stored (z * 4 + 3) (.int .i64 y)
                  have HR' := Lib.hid (retAt_snoc (M := M1) HXM.out)
                  have HQ' := Lib.hid (retAt_at (M := M1) HXM.out)
                  have HRI : Hid (retI M1 ⟨6, xr, xsS, xn⟩ = ⟨6, xr, xsS, y⟩) := Lib.hid (by simp [retI, hy])
                  have hb1 : xn < (M1.length : Int) := by omega
                  have HY := Lib.hid hy
                  clear hy
                  have hO3 : (wr.setCell ⟨g, z * 4 + 3, none⟩ (.int .i64 y)).ownsRow wo.heap.size 74 4 (.slice (some ⟨g, 0, none⟩) L.length cO) L.length (flc (retAt M1 L (z + 1))) := by
                    rw [HR'.out, HRI.out, ← flc_set HQ'.out]
                    exact hst.1
                  have hM3 := hMr.kept hst.2 (own_ne hMr hOr (by decide))
                  have hB3 := hBr.setCell (p := ⟨g, z * 4 + 3, none⟩) (hOr.lt g rfl).1 (.int .i64 y)
                  clear hst
                  go_wp2_with fail
                  exact ⟨⟨z + 1, by omega, by go_num, hO3, hM3, hB3⟩, by simp [intOf]; omega⟩
                · have hq6 : (x.o == 6) = false := by simp [h6]
                  have HR' := Lib.hid (retAt_keep (M := M1) HXM.out h6)
                  clear h6
                  go_wp2_with fail
                  exact ⟨⟨z + 1, by omega, by go_num, by rw [HR'.out]; exact hOr, hMr, hBr⟩, by simp [intOf]; omega⟩
              · obtain rfl : z = L.length := by omega
                rw [retAt_all, HXR.out] at hOr
                obtain ⟨hO, hI, hBS, hB, hszr, kg⟩ := HKEEP.out
                have hll : L.length = (rebF (strP k xs) xs.length).length := by rw [← HXR.out, List.length_map]
                obtain ⟨n9, hn9⟩ : ∃ n9, L.length = n9 := ⟨_, rfl⟩
                obtain ⟨R9, hR9⟩ : ∃ R9, rebF (strP k xs) xs.length = R9 := ⟨_, rfl⟩
                rw [hR9] at hOr hll HOX
                rw [hll] at hOr ⊢
                have hBa := hBr.alloc hBr.size (.cells #[.slice AO R9.length cO] 57)
                have hOrow := (ownsRow_below hO hBr).alloc (.cells #[.slice AO R9.length cO] 57)
                obtain ⟨bs9, hI9, hN9, hl9⟩ := row_more (lo := w2.heap.size + 1) hI hBS.1 hBa (hOr.alloc (.cells #[.slice AO R9.length cO] 57)) (by decide) hBS.2 hszr
                have kgr := kg.below hBr kg.lt
                obtain ⟨g1, f1⟩ := kgr.at_ 1 (x := .slice AR k cR) rfl
                have hBr2 := hB.trans (hBr.mono hB.size)
                have H9 := Lib.hid (And.intro hI9 (And.intro hN9 (And.intro hl9 (And.intro hOrow kgr))))
                rw [← HOX.out] at H9
                have hOx := ownsRow_below hO hBr
                clear hI9 hN9 hl9 hOrow kgr hI hBS hB hszr kg hO hOr hMr hBa hn9 hR9
                go_wp2_with (at_builtin; refine wpList_append_own _ rfl _ _ 31 rfl ((w2.heap.size + 1)) 57 q (.slice none 0 0) 1 24 Try.underlying31 hq hqz0 hqz1 hqz2 rfl (by decide) _ _ _ rfl (hOx.alloc _) ⟨wr.heap.size, 0, none⟩ 1 1 [.slice AO R9.length cO] rfl rfl (new_cells _ _ _) (by simp [Value.oneCell']) (by unfold maxLen; omega) (by omega) (by have := hBr2.size; simp; omega) ?_)
                intro v7 w7 ho7 hg7 _
                have hB7 := (hBr2.alloc hBr2.size _).grown hg7 (by have := hBr2.size; simp; omega) (fun k hk => by have := (hOx.lt k hk).1; omega)
                obtain ⟨A7, c7, rfl, -, -⟩ := owns_slice ho7
                obtain ⟨hI9, hN9, hl9, hOrow, kgr⟩ := H9.out
                obtain ⟨hI7, hN7⟩ := rows_stay hI9 hN9 hOrow hg7 hl9 (g := w2.heap.size) (i := 1) (Nat.lt_succ_self _) (.slice A7 (k + 1) c7)
                have kg7 := (kgr.alloc (.cells #[.slice AO R9.length cO] 57)).grown hg7 (fun x hx => by have := (hOrow.lt x hx).1; omega)
                obtain ⟨y1, z1⟩ := kg7.at_ 1 (x := .slice AR k cR) rfl
                have kg8 := kg7.set_ 1 (.slice A7 (k + 1) c7)
                have hO8 := ownsRow_setCell_below ho7 (a := ⟨w2.heap.size, 1, none⟩) (Nat.lt_succ_self _) (.slice A7 (k + 1) c7)
                have hB8 := hB7.setCell (p := ⟨w2.heap.size, 1, none⟩) (Nat.le_refl _) (.slice A7 (k + 1) c7)
                have hs7 := hg7.size
                have hsr := hBr2.size
                have HE := Lib.hid (And.intro hO8 (And.intro hI7 (And.intro hN7 (And.intro hl9 (And.intro hB8 kg8)))))
                simp only [World.size_alloc] at hs7
                clear hO8 hI7 hN7 hl9 hB8 kg8 hI9 hN9 hOrow kgr kg7 hB7 ho7 hg7
                go_wp2_with fail
                exact ⟨⟨k + 1, A7, c7, _, _, by omega, by go_num, Lib.hid (by simp [HL.out]), HE.out.1, HE.out.2.1, Lib.hid ⟨HE.out.2.2.1, HE.out.2.2.2.1⟩, HE.out.2.2.2.2.1, by simp [World.setCell]; omega, by simpa using HE.out.2.2.2.2.2⟩, by simp [intOf]; omega⟩
      · obtain rfl : k = p.x.length := by omega
        clear hin hcell
        have k25 := K2.out.below hWr K2.out.lt
        obtain ⟨q0, -⟩ := kg.at_ 0 (x := .int .i64 p.c) rfl
        obtain ⟨q1, -⟩ := kg.at_ 1 (x := .slice AR p.x.length cR) rfl
        obtain ⟨y0, f0⟩ := k25.at_ 0 (x := .int .i64 0) rfl
        have k2a := k25.set_ 0 (.int .i64 p.c)
        obtain ⟨y1, f1⟩ := k2a.at_ 1 (x := .slice none 0 0) rfl
        have k2b := k2a.set_ 1 (.slice AR p.x.length cR)
        obtain ⟨r0, -⟩ := k2b.at_ 0 (x := .int .i64 p.c) rfl
        obtain ⟨r1, -⟩ := k2b.at_ 1 (x := .slice AR p.x.length cR) rfl
        obtain ⟨b9, h1, h2⟩ := Own.of_owns hO
        have hne := ne_of_nt HBS.out.1 (owns_bk hO h1)
        have hOS : OwnSS wr (.slice AR p.x.length cR) (outX strP p.x p.x.length) (b9 ++ bss.flatten) := ⟨us, b9, bss, by rw [outX_len]; exact h1, hI, rfl, fun x hx y hy e => hne x hx (e ▸ hy)⟩
        have hsw := HSW.out
        have hbl : ∀ x ∈ b9 ++ bss.flatten, w2.heap.size + 1 ≤ x := fun x hx => by
          rcases List.mem_append.1 hx with hx | hx
          · exact h2 x hx
          · exact HBS.out.2 x hx
        have hOF := (hOS.far (b := w.heap.size + 1) (i := 0) (u := .int .i64 p.c) fun x hx => by have := hbl x hx; omega).far (b := w.heap.size + 1) (i := 1) (u := .slice AR p.x.length cR) fun x hx => by have := hbl x hx; omega
        have hBF := ((HB0.out.trans (hWr.mono HB0.out.size)).setCell (p := ⟨w.heap.size + 1, 0, none⟩) (by show w.heap.size ≤ w.heap.size + 1; omega) (.int .i64 p.c)).setCell (p := ⟨w.heap.size + 1, 1, none⟩) (by show w.heap.size ≤ w.heap.size + 1; omega) (.slice AR p.x.length cR)
        have HE := Lib.hid (And.intro hOF (And.intro hBF fun x hx => Nat.le_trans (by omega : w.heap.size ≤ w2.heap.size + 1) (hbl x hx)))
        clear hOF hBF hOS hbl h1 h2 hne hO hI hB kg k25 k2a k2b hWr
        go_wp2_with fail
        exact bodyPost_ret (v := .tuple #[.agg #[.int .i64 p.c, .slice AR p.x.length cR], .bool true]) (by simp [results, Try.results29, go_sem, r0, r1]) rfl ⟨_, _, by rw [HN.out]; rfl, by rw [HN.out]; exact HE.out.1, HE.out.2.2, HE.out.2.1⟩
theorem put_many {p : Pr} {ss : List P2} (h : 51 < ss.length) : putF p ss = none := by
  unfold putF
  rw [if_neg]
  intro ⟨_, h2, _⟩
  have := spots_len h2
  omega
theorem put_unspot {p : Pr} {ss : List P2} (h : spotsB p ss = false) : putF p ss = none := by simp [putF, h]
set_option maxHeartbeats 25600000 in
theorem spec_PutFences (v sv : Value) (p : Pr) (ss : List P2) (w : World) (h : RdSS w v p.x) (hs : Rd w sv 2 ss.length (flc2 ss)) :
    Calls Try.prog 17 #[.agg #[.int .i64 p.c, v], sv] w (RetPrB ((putF p ss).getD ⟨0, []⟩) (putF p ss).isSome w) := by
  obtain ⟨vs, ⟨A, c, rfl, -, hnc, hc, hr⟩, hin⟩ := id h
  obtain ⟨As, cs, rfl, -, hns, hcs, hrs⟩ := id hs
  unfold maxLen at hc hcs
  obtain ⟨i, hi, hiz0, hiz1, hiz2⟩ := info_parts infoInt
  obtain ⟨ss_, hss_, hss_z0, hss_z1, hss_z2⟩ := info_parts infoIns
  obtain ⟨q, hq, hqz0, hqz1, hqz2⟩ := info_parts infoCodes
  have k0 := (Bk.new w #[.int .i64 p.c, .slice A p.x.length c] 33).alloc (.cells #[.int .i64 0, .slice none 0 0] 33)
  have k2 := Bk.new (w.alloc (.cells #[.int .i64 p.c, .slice A p.x.length c] 33)) #[.int .i64 0, .slice none 0 0] 33
  have hB0 := ((Below.refl w.heap.size w).alloc (Nat.le_refl _) (.cells #[.int .i64 p.c, .slice A p.x.length c] 33)).alloc (by simp) (.cells #[.int .i64 0, .slice none 0 0] 33)
  simp only [World.size_alloc] at k2
  obtain ⟨W, hW⟩ : ∃ W, (w.alloc (.cells #[.int .i64 p.c, .slice A p.x.length c] 33)).alloc (.cells #[.int .i64 0, .slice none 0 0] 33) = W := ⟨_, rfl⟩
  rw [hW] at k0 k2 hB0
  have hsW : W.heap.size = w.heap.size + 2 := by rw [← hW]; simp
  have HW := Lib.hid hW
  have HB0 := Lib.hid hB0
  have HR := Lib.hid (h.below hB0)
  have HS := Lib.hid (hs.below hB0)
  have HC := spec_ProgOk _ p _ HR.out
  have K0 := Lib.hid k0
  have K2 := Lib.hid k2
  have HSW := Lib.hid hsW
  obtain ⟨c0, -⟩ := k0.at_ 0 (x := .int .i64 p.c) rfl
  obtain ⟨c1, -⟩ := k0.at_ 1 (x := .slice A p.x.length c) rfl
  have HNONE : Hid (∀ (W' : World) (H : Below W.heap.size W W'), (putF p ss = none) → RetPrB ((putF p ss).getD ⟨0, []⟩) (putF p ss).isSome w (.returned (.tuple #[.agg #[.int .i64 0, .slice none 0 0], .bool false])) ((W'.setCell ⟨w.heap.size + 1, 0, none⟩ (.int .i64 0)).setCell ⟨w.heap.size + 1, 1, none⟩ (.slice none 0 0))) := Lib.hid fun W' H hn =>
    ⟨_, [], by rw [hn]; rfl, by rw [hn]; exact OwnSS.nil _, by simp, ((HB0.out.trans (H.mono HB0.out.size)).setCell (p := ⟨w.heap.size + 1, 0, none⟩) (by show w.heap.size ≤ w.heap.size + 1; omega) _).setCell (p := ⟨w.heap.size + 1, 1, none⟩) (by show w.heap.size ≤ w.heap.size + 1; omega) _⟩
  clear hW k0 k2 hB0 h hs hsW
  cases hok : progOkF p
  · have HN : Hid (putF p ss = none) := Lib.hid (by simp [putF, hok])
    rw [hok] at HC
    have HC := Lib.hid HC
    clear hok hr hin hrs
    go_enter Try.func17, Try.ntmps17
    go_upto_region 1 with (fail)
    rw [HW.out]
    go_wp2_with fail
    refine HC.out.mono ?_
    rintro e w1 ⟨rfl, hb1⟩
    have kz := (K2.out.below hb1 K2.out.lt)
    obtain ⟨y0, f0⟩ := kz.at_ 0 (x := .int .i64 0) rfl
    have kza := kz.set_ 0 (.int .i64 0)
    obtain ⟨y1, f1⟩ := kza.at_ 1 (x := .slice none 0 0) rfl
    have kzb := kza.set_ 1 (.slice none 0 0)
    obtain ⟨r0, -⟩ := kzb.at_ 0 (x := .int .i64 0) rfl
    obtain ⟨r1, -⟩ := kzb.at_ 1 (x := .slice none 0 0) rfl
    clear kz kza kzb
    go_wp2_with fail
    exact bodyPost_ret (v := .tuple #[.agg #[.int .i64 0, .slice none 0 0], .bool false]) (by simp [results, Try.results17, go_sem, r0, r1]) rfl (HNONE.out _ hb1 HN.out)
  · have HOK := Lib.hid hok
    have HPP := Lib.hid (progOk_parts hok)
    have hpl := HPP.out.2.1
    rw [hok] at HC
    have HC := Lib.hid HC
    obtain ⟨b, o, rfl, hb, hcell⟩ := hr (by omega)
    have HPB : Hid (∀ U : World, Below W.heap.size W U → U.cell? ⟨w.heap.size, 0, none⟩ = some (.int .i64 p.c) ∧ U.cell? ⟨w.heap.size, 1, none⟩ = some (.slice (some ⟨b, o, none⟩) p.x.length c)) := Lib.hid fun U hU =>
      ⟨((K0.out.below hU K0.out.lt).at_ 0 (x := .int .i64 p.c) rfl).1, ((K0.out.below hU K0.out.lt).at_ 1 (x := .slice (some ⟨b, o, none⟩) p.x.length c) rfl).1⟩
    clear hok
    by_cases hmany : 51 < ss.length
    · have HN := Lib.hid (put_many (p := p) hmany)
      clear hin hrs hcell
      go_enter Try.func17, Try.ntmps17
      go_upto_region 1 with (fail)
      rw [HW.out]
      go_wp2_with fail
      refine HC.out.mono ?_
      rintro e w1 ⟨rfl, hb1⟩
      have kz := (K2.out.below hb1 K2.out.lt)
      obtain ⟨y0, f0⟩ := kz.at_ 0 (x := .int .i64 0) rfl
      have kza := kz.set_ 0 (.int .i64 0)
      obtain ⟨y1, f1⟩ := kza.at_ 1 (x := .slice none 0 0) rfl
      have kzb := kza.set_ 1 (.slice none 0 0)
      obtain ⟨r0, -⟩ := kzb.at_ 0 (x := .int .i64 0) rfl
      obtain ⟨r1, -⟩ := kzb.at_ 1 (x := .slice none 0 0) rfl
      clear kz kza kzb
      go_wp2_with fail
      exact bodyPost_ret (v := .tuple #[.agg #[.int .i64 0, .slice none 0 0], .bool false]) (by simp [results, Try.results17, go_sem, r0, r1]) rfl (HNONE.out _ hb1 HN.out)
    go_enter Try.func17, Try.ntmps17
    go_upto_region 1 with (fail)
    rw [HW.out]
    go_wp2_with fail
    refine HC.out.mono ?_
    rintro e w2 ⟨rfl, hb2⟩
    clear c0 c1
    go_wp2_with fail
    go_loopw [6] (fun j wr => ∃ k : Nat, k ≤ ss.length ∧ j = .int .i64 k ∧ Hid ((List.range k).all (okS p ss) = true) ∧ Below W.heap.size W wr) (fun j _ => ss.length - (intOf j).toNat)
    case atStart => exact ⟨0, Nat.zero_le _, rfl, Lib.hid (by simp), hb2⟩
    case round =>
      obtain ⟨k, hk, rfl, HA, hB⟩ := hrel
      clear hb2
      by_cases hlt : k < ss.length
      · obtain ⟨bs, os, rfl, hbs, hcs2⟩ := hrs (by omega)
        have HCELL : Hid (∀ U, Below W.heap.size W U → ∀ j u, (flc2 ss)[j]? = some u → U.cell? ⟨bs, os + j, none⟩ = some u) := Lib.hid fun U hU j u hu => ((HB0.out.trans (hU.mono HB0.out.size)).cell (p := ⟨bs, os + j, none⟩) hbs).trans (hcs2 j u hu)
        obtain ⟨x, hxk, hx0, hx1⟩ := p2_at (HCELL.out _ hB) hlt
        obtain ⟨xa, xb⟩ := x
        simp only at hx0 hx1
        have hbw : bs < wr.heap.size := Nat.lt_of_lt_of_le (Nat.lt_of_lt_of_le hbs HB0.out.size) hB.size
        have k0r := K0.out.below hB K0.out.lt
        have hC : ∀ q : Past wr, Calls Try.prog 11 #[.agg #[.int .i64 xa, .int .i64 xb], .agg #[.int .i64 p.c, .slice (some ⟨b, o, none⟩) p.x.length c]] q.v fun e w' => e = .returned (.bool (spotB p ⟨xa, xb⟩)) ∧ Below q.v.heap.size q.v w' := fun q => spec_SpotOk _ ⟨xa, xb⟩ p _ ((HR.out.below hB).below q.hb)
        have p0 := Past.cell hbw hx0
        have p1 := Past.cell hbw hx1
        have p2 := Past.cell k0r.lt (k0r.at_ 0 (x := .int .i64 p.c) rfl).1
        have p3 := Past.cell k0r.lt (k0r.at_ 1 (x := .slice (some ⟨b, o, none⟩) p.x.length c) rfl).1
        have HBr := Lib.hid hB
        have hkl : (k : Int) < ss.length := by omega
        clear hx0 hx1 hcs2 hrs k0r hin hcell hB
        cases hsp : spotB p ⟨xa, xb⟩
        · have HN := Lib.hid (put_unspot (okS_false hlt (okS_no hxk.out hsp)))
          rw [hsp] at hC
          have HCq := Lib.hid hC
          clear hC hsp
          go_wp2_with fail
          refine wp_region_past (by kernel_rfl) (by kernel_rfl) ?_
          repeat (go_big_quiet_step (first | (go_at_call 11; exact Calls.past_of (HCq.out _))))
          refine wpQuiet_nil ?_
          intro _ hw'
          obtain ⟨t, rfl⟩ := hw'
          have hB3 := HBr.out.trans (t.hb.mono HBr.out.size)
          have kz := (K2.out.below hB3 K2.out.lt)
          obtain ⟨y0, f0⟩ := kz.at_ 0 (x := .int .i64 0) rfl
          have kza := kz.set_ 0 (.int .i64 0)
          obtain ⟨y1, f1⟩ := kza.at_ 1 (x := .slice none 0 0) rfl
          have kzb := kza.set_ 1 (.slice none 0 0)
          obtain ⟨r0, -⟩ := kzb.at_ 0 (x := .int .i64 0) rfl
          obtain ⟨r1, -⟩ := kzb.at_ 1 (x := .slice none 0 0) rfl
          clear kz kza kzb
          go_wp2_with fail
          exact bodyPost_ret (v := .tuple #[.agg #[.int .i64 0, .slice none 0 0], .bool false]) (by simp [results, Try.results17, go_sem, r0, r1]) rfl (HNONE.out _ hB3 HN.out)
        · have HSP := Lib.hid hsp
          rw [hsp] at hC
          have HCq := Lib.hid hC
          clear hC hsp
          by_cases hk0 : k = 0
          · subst hk0
            have HQ := Lib.hid (okS_snoc HA.out (okS_first hxk.out HSP.out))
            have hz : ¬ (0 : Int) < ((0 : Nat) : Int) := by omega
            have hz1 : (0 : Int) < ss.length := by omega
            have p0' : ∀ t : Past wr, t.v.cell? ⟨bs, os, none⟩ = some (.int .i64 xa) := fun t => by simpa using p0 t
            have p1' : ∀ t : Past wr, t.v.cell? ⟨bs, os + 1, none⟩ = some (.int .i64 xb) := fun t => by simpa using p1 t
            clear p0 p1 hkl
            go_wp2_with fail
            refine wp_region_past (by kernel_rfl) (by kernel_rfl) ?_
            repeat (go_big_quiet_step (first | (go_at_call 11; exact Calls.past_of (HCq.out _))))
            refine wpQuiet_nil ?_
            intro _ hw'
            obtain ⟨t, rfl⟩ := hw'
            go_wp2_with fail
            exact ⟨⟨1, by omega, by go_num, HQ, HBr.out.trans (t.hb.mono HBr.out.size)⟩, by simp [intOf]; omega⟩
          · have hkp : (0 : Int) < (k : Int) := by omega
            obtain ⟨j, rfl⟩ : ∃ j, k = j + 1 := ⟨k - 1, by omega⟩
            obtain ⟨y, hyk, hy0, hy1⟩ := p2_at (HCELL.out _ HBr.out) (k := j) (by omega)
            obtain ⟨ya, yb⟩ := y
            simp only at hy0 hy1
            have p4 := Past.cell hbw hy0
            have p5 := Past.cell hbw hy1
            have hwr : IntKind.i64.wrap (((j + 1 : Nat) : Int) - 1) = (j : Int) := by rw [show (((j + 1 : Nat) : Int) - 1) = (j : Int) from by omega]; exact IntWalk.i64_in _ (by omega)
            have hj0 : (j : Int) < ss.length := by omega
            have hD : ∀ W : World, Calls Try.prog 48 #[.agg #[.int .i64 ya, .int .i64 yb], .agg #[.int .i64 xa, .int .i64 xb]] W fun e w' => e = .returned (.bool (lessS ⟨ya, yb⟩ ⟨xa, xb⟩)) ∧ Below W.heap.size W w' := fun W => spec_l07Less ⟨ya, yb⟩ ⟨xa, xb⟩ W
            have hok := okS_next (p := p) hxk.out (k := j + 1) (by simpa using hyk.out) (by omega) HSP.out
            clear hy0 hy1 hk0
            cases hls : lessS ⟨ya, yb⟩ ⟨xa, xb⟩
            · rw [hls] at hok hD
              have HN := Lib.hid (put_unspot (okS_false hlt hok))
              have HD := Lib.hid hD
              clear hls hok hD
              go_wp2_with fail
              refine wp_region_past (by kernel_rfl) (by kernel_rfl) ?_
              repeat (go_big_quiet_step (first | (go_at_call 11; exact Calls.past_of (HCq.out _)) | (go_at_call 48; exact Calls.past_of (HD.out _))))
              refine wpQuiet_nil ?_
              intro _ hw'
              obtain ⟨t, rfl⟩ := hw'
              have hB3 := HBr.out.trans (t.hb.mono HBr.out.size)
              have kz := (K2.out.below hB3 K2.out.lt)
              obtain ⟨y0, f0⟩ := kz.at_ 0 (x := .int .i64 0) rfl
              have kza := kz.set_ 0 (.int .i64 0)
              obtain ⟨y1, f1⟩ := kza.at_ 1 (x := .slice none 0 0) rfl
              have kzb := kza.set_ 1 (.slice none 0 0)
              obtain ⟨r0, -⟩ := kzb.at_ 0 (x := .int .i64 0) rfl
              obtain ⟨r1, -⟩ := kzb.at_ 1 (x := .slice none 0 0) rfl
              clear kz kza kzb
              go_wp2_with fail
              exact bodyPost_ret (v := .tuple #[.agg #[.int .i64 0, .slice none 0 0], .bool false]) (by simp [results, Try.results17, go_sem, r0, r1]) rfl (HNONE.out _ hB3 HN.out)
            · rw [hls] at hok hD
              have HQ := Lib.hid (okS_snoc HA.out hok)
              have HD := Lib.hid hD
              clear hls hok hD
              go_wp2_with fail
              refine wp_region_past (by kernel_rfl) (by kernel_rfl) ?_
              repeat (go_big_quiet_step (first | (go_at_call 11; exact Calls.past_of (HCq.out _)) | (go_at_call 48; exact Calls.past_of (HD.out _))))
              refine wpQuiet_nil ?_
              intro _ hw'
              obtain ⟨t, rfl⟩ := hw'
              go_wp2_with fail
              exact ⟨⟨j + 1 + 1, by omega, by go_num, HQ, HBr.out.trans (t.hb.mono HBr.out.size)⟩, by simp [intOf]; omega⟩
      · obtain rfl : k = ss.length := by omega
        have HSP : Hid (spotsB p ss = true) := HA
        clear HA hrs
        rename World => w3
        have hb3 := hB
        obtain ⟨c0, c1⟩ := HPB.out _ hb3
        have kg0 := Bk.new w3 #[.int .i64 p.c, .slice none 0 0] 33
        have hBg := (Below.refl w3.heap.size w3).alloc (Nat.le_refl _) (.cells #[.int .i64 p.c, .slice none 0 0] 33)
        have hsw3 := hb3.size
        clear hB
        go_wp2_with fail
        clear c0 c1
        go_loopw [8] (fun j wr => ∃ (k : Nat) (AR : Option Addr) (cR : Nat) (us : List Value) (bss : List (List Nat)), k ≤ p.x.length ∧ j = .int .i64 k ∧ Hid (us.length = k) ∧ wr.ownsRow (w3.heap.size + 1) 57 1 (.slice AR k cR) k us ∧
          InSS wr us (outX (putP ss) p.x k) bss ∧ Hid (NT 57 wr bss.flatten ∧ ∀ b ∈ bss.flatten, w3.heap.size + 1 ≤ b) ∧ Below w3.heap.size w3 wr ∧ w3.heap.size + 1 ≤ wr.heap.size ∧ Bk wr w3.heap.size #[.int .i64 p.c, .slice AR k cR] 33) (fun j _ => p.x.length - (intOf j).toNat)
        case atStart => exact ⟨0, none, 0, [], [], Nat.zero_le _, rfl, Lib.hid rfl, World.ownsRow_nil _ _ _ _, trivial, Lib.hid ⟨fun b hb => by simp at hb, by simp⟩, hBg, by simp, kg0⟩
        case round =>
          obtain ⟨k, AR, cR, us, bss, hk, rfl, HL, hO, hI, HBS, hB, hszr, kg⟩ := hrel
          clear kg0 hBg
          have hWr : Below W.heap.size W wr := hb3.trans (hB.mono hsw3)
          obtain ⟨c0, c1⟩ := HPB.out _ hWr
          by_cases hlt : k < p.x.length
          · obtain ⟨xs, hxk⟩ : ∃ xs, p.x[k]? = some xs := ⟨_, List.getElem?_eq_getElem hlt⟩
            obtain ⟨ck, hck, hrk⟩ := hin.at_ hxk
            have hco := HPP.out.2.2 xs (List.mem_of_getElem? hxk)
            have hx16 := codeOk_len hco
            have HTG := Lib.hid (codeOk_tgt hco)
            obtain ⟨Ak, dk, rfl, -, hncx, hcx, hrx⟩ := id hrk
            unfold maxLen at hcx
            have HROW : Hid (∀ U : World, Below W.heap.size W U → U.cell? ⟨b, o + k, none⟩ = some (.slice Ak xs.length dk)) := Lib.hid fun U hU => ((HB0.out.trans (hU.mono HB0.out.size)).cell (p := ⟨b, o + k, none⟩) hb).trans (hcell k _ hck)
            have HX : Hid (∀ (U : World) (m : Nat), Below W.heap.size W U → m < xs.length → ∃ (b2 o2 : Nat) (x : Ins), Ak = some ⟨b2, o2, none⟩ ∧ xs[m]? = some x ∧ Ins4 U b2 (o2 + m * 4) x) := Lib.hid fun U m hU hm => by
              obtain ⟨b2, o2, he, hb2', hcell2⟩ := hrx (by omega)
              have hwU := HB0.out.trans (hU.mono HB0.out.size)
              obtain ⟨x, hxm, h4⟩ := ins_at (fun j u hu => (hwU.cell (p := ⟨b2, o2 + j, none⟩) hb2').trans (hcell2 j u hu)) hm
              exact ⟨b2, o2, x, he, hxm.out, h4⟩
            have HOX := Lib.hid (outX_snoc (putP ss) hxk)
            have c2 := HROW.out _ hWr
            have hO0 := owns_newCells wr 74 4
            have hM0 := owns_newCells (wr.alloc (.cells #[] 74)) 3 1
            have hB1 := ((Below.refl wr.heap.size wr).alloc (Nat.le_refl _) (.cells #[] 74)).alloc (by simp) (.cells #[] 3)
            simp only [World.size_alloc] at hM0
            have hO0' := hO0.alloc (.cells #[] 3)
            have hM0' := owns_mono hM0 (Nat.le_succ wr.heap.size)
            clear hxk hck hrk hrx hcell hin hO0 hM0 hco
            go_wp2_with fail
            rename World => wo
            clear c0 c1 c2
            go_loopw [9, 10, 11] (fun vo vm j wr => ∃ (m : Nat) (L : List Ins) (M : List Int), m ≤ xs.length + 1 ∧ j = .int .i64 m ∧ L.length ≤ 2 * m ∧ Hid (M.length = m) ∧ Hid (L = pcs (putP ss k xs) m ∧ M = mvs (putP ss k xs) m) ∧
              wr.ownsRow wo.heap.size 74 4 vo L.length (flc L) ∧ wr.ownsRow wo.heap.size 3 1 vm M.length (ints M) ∧ Below wo.heap.size wo wr) (fun _ _ j _ => xs.length + 1 - (intOf j).toNat)
            case atStart => exact ⟨0, [], [], Nat.zero_le _, rfl, Nat.le_refl _, Lib.hid rfl, Lib.hid ⟨rfl, rfl⟩, hO0', hM0', hB1⟩
            case round =>
              obtain ⟨m, L, M, hm, rfl, hL, HM, HLM, hOq, hMq, hBq⟩ := hrel
              clear hO0' hM0' hB1
              have hWq := hWr.trans (hBq.mono hWr.size)
              obtain ⟨c0, c1⟩ := HPB.out _ hWq
              have c2 := HROW.out _ hWq
              obtain ⟨AO, cO, rfl, hcO, hcOm⟩ := owns_slice hOq
              have hMl : M.length ≤ m := by have := HM.out; omega
              by_cases hmlt : m < xs.length + 1
              · have HMS := Lib.hid (mvs_snoc (putP ss k xs) m)
                have HS' := Lib.hid (pcs_snoc (putP ss k xs) m)
                go_wp2_with (at_builtin; refine wpList_append_own _ rfl _ _ 71 rfl (wo.heap.size) 3 i (.int .i64 0) 1 8 Try.underlying71 hi hiz0 hiz1 hiz2 rfl (by decide) _ _ _ rfl (hMq.alloc _) ⟨wr.heap.size, 0, none⟩ 1 1 [.int .i64 L.length] rfl rfl (new_cells _ _ _) (by simp [Value.oneCell']) (by unfold maxLen; omega) (by omega) (by have := hBq.size; simp; omega) ?_)
                intro vm1 w1 hm1 hg1 _
                have hB2 := (hBq.alloc hBq.size _).grown hg1 (by have := hBq.size; simp; omega) (fun k hk => by have := (hMq.lt k hk).1; omega)
                have hO1 := (hOq.alloc (.cells #[.int .i64 L.length] 3)).kept hg1 (own_ne (hOq.alloc (.cells #[.int .i64 L.length] 3)) (hMq.alloc (.cells #[.int .i64 L.length] 3)) (by decide))
                have hm2 := owns_snoc hm1
                have hW2 := hWr.trans (hB2.mono hWr.size)
                clear c0 c1 c2 hm1 hg1 hOq hMq hBq hWq
                obtain ⟨c0, c1⟩ := HPB.out _ hW2
                have c2 := HROW.out _ hW2
                have hH := spec_l07Has _ ss k m w1 (HS.out.below hW2)
                by_cases hmn : m < xs.length
                · obtain ⟨b2, o2, ⟨xo, xr, xsS, xn⟩, rfl, hxm, hx0, hx1, hx2, hx3⟩ := HX.out _ m hW2 hmn
                  simp only at hx0 hx1 hx2 hx3
                  have HX4 : Hid (∀ U : World, Below W.heap.size W U → Ins4 U b2 (o2 + m * 4) ⟨xo, xr, xsS, xn⟩) := Lib.hid fun U hU => by
                    obtain ⟨b3, o3, y, he, hym, h4⟩ := HX.out U m hU hmn
                    injection he with he
                    injection he with e1 e2
                    subst e1 e2
                    have := Option.some.inj (hxm.symm.trans hym)
                    subst this
                    exact h4
                  have HA := Lib.hid (putP_at (ss := ss) (t := k) hxm)
                  clear hxm
                  cases hh : hasS ss k m
                  · have HF : Hid (pcs (putP ss k xs) (m + 1) = pcs (putP ss k xs) m ++ [⟨xo, xr, xsS, xn⟩]) := Lib.hid (by rw [HS'.out, HA.out, hh]; rfl)
                    rw [hh] at hH
                    have HH := Lib.hid hH
                    clear hH hh
                    go_wp2_with fail
                    refine HH.out.mono ?_
                    rintro e w' ⟨rfl, rfl⟩
                    go_wp2_with (at_builtin; refine wpList_append_own _ rfl _ _ 57 rfl (wo.heap.size) 74 ss_ (.agg #[.int .i64 0, .int .i64 0, .int .i64 0, .int .i64 0]) 4 32 Try.underlying57 hss_ hss_z0 hss_z1 hss_z2 rfl (by decide) _ _ _ rfl (hO1.alloc _) ⟨w1.heap.size, 0, none⟩ 1 1 [.int .i64 xo, .int .i64 xr, .int .i64 xsS, .int .i64 xn] rfl rfl (new_cells _ _ _) (by simp [Value.oneCell']) (by unfold maxLen; omega) (by omega) (by have := hB2.size; simp; omega) ?_)
                    intro vo1 w6 ho1 hg2 _
                    have hB3 := (hB2.alloc hB2.size _).grown hg2 (by have := hB2.size; simp; omega) (fun k hk => by have := (hO1.lt k hk).1; omega)
                    have ho2 := owns_snocI (x := ⟨xo, xr, xsS, xn⟩) ho1
                    have hm3 := (hm2.alloc (.cells #[.int .i64 xo, .int .i64 xr, .int .i64 xsS, .int .i64 xn] 74)).kept hg2 (own_ne (hm2.alloc (.cells #[.int .i64 xo, .int .i64 xr, .int .i64 xsS, .int .i64 xn] 74)) (hO1.alloc (.cells #[.int .i64 xo, .int .i64 xr, .int .i64 xsS, .int .i64 xn] 74)) (by decide))
                    go_wp2_with fail
                    exact ⟨⟨m + 1, L ++ [⟨xo, xr, xsS, xn⟩], M ++ [(L.length : Int)], by omega, by go_num, by simp; omega, Lib.hid (by have := HM.out; simp [this]), Lib.hid ⟨by rw [HF.out, HLM.out.1], by rw [HMS.out, HLM.out.1, HLM.out.2]⟩, ho2, hm3, hB3⟩, by simp [intOf] <;> omega⟩
                  · have HF : Hid (pcs (putP ss k xs) (m + 1) = pcs (putP ss k xs) m ++ [fenceI] ++ [⟨xo, xr, xsS, xn⟩]) := Lib.hid (by rw [HS'.out, HA.out, hh, List.append_assoc]; rfl)
                    rw [hh] at hH
                    have HH := Lib.hid hH
                    clear hH hh
                    go_wp2_with fail
                    refine HH.out.mono ?_
                    rintro e w' ⟨rfl, rfl⟩
                    go_wp2_with (at_builtin; refine wpList_append_own _ rfl _ _ 57 rfl (wo.heap.size) 74 ss_ (.agg #[.int .i64 0, .int .i64 0, .int .i64 0, .int .i64 0]) 4 32 Try.underlying57 hss_ hss_z0 hss_z1 hss_z2 rfl (by decide) _ _ _ rfl (hO1.alloc _) ⟨w1.heap.size, 0, none⟩ 1 1 [.int .i64 4, .int .i64 0, .int .i64 0, .int .i64 0] rfl rfl (new_cells _ _ _) (by simp [Value.oneCell']) (by unfold maxLen; omega) (by omega) (by have := hB2.size; simp; omega) ?_)
                    intro vo1 w6 ho1 hg2 _
                    have hB3 := (hB2.alloc hB2.size _).grown hg2 (by have := hB2.size; simp; omega) (fun k hk => by have := (hO1.lt k hk).1; omega)
                    have ho2 := owns_snocI (x := fenceI) ho1
                    have hm3 := (hm2.alloc (.cells #[.int .i64 4, .int .i64 0, .int .i64 0, .int .i64 0] 74)).kept hg2 (own_ne (hm2.alloc (.cells #[.int .i64 4, .int .i64 0, .int .i64 0, .int .i64 0] 74)) (hO1.alloc (.cells #[.int .i64 4, .int .i64 0, .int .i64 0, .int .i64 0] 74)) (by decide))
                    have hW3 := hWr.trans (hB3.mono hWr.size)
                    clear hx0 hx1 hx2 hx3 c0 c1 c2 ho1 hg2
                    obtain ⟨c0, c1⟩ := HPB.out _ hW3
                    have c2 := HROW.out _ hW3
                    obtain ⟨hx0, hx1, hx2, hx3⟩ := HX4.out _ hW3
                    simp only at hx0 hx1 hx2 hx3
                    obtain ⟨L1, hL1⟩ : ∃ L1, L ++ [fenceI] = L1 := ⟨_, rfl⟩
                    have hl1 : L1.length ≤ 2 * m + 1 := by rw [← hL1]; simp; omega
                    rw [hL1] at ho2
                    have HL1 := Lib.hid hL1
                    obtain ⟨AP, cP, rfl, hcP, hcPm⟩ := owns_slice ho2
                    clear hL1
                    go_wp2_with (at_builtin; refine wpList_append_own _ rfl _ _ 57 rfl (wo.heap.size) 74 ss_ (.agg #[.int .i64 0, .int .i64 0, .int .i64 0, .int .i64 0]) 4 32 Try.underlying57 hss_ hss_z0 hss_z1 hss_z2 rfl (by decide) _ _ _ rfl (ho2.alloc _) ⟨w6.heap.size, 0, none⟩ 1 1 [.int .i64 xo, .int .i64 xr, .int .i64 xsS, .int .i64 xn] rfl rfl (new_cells _ _ _) (by simp [Value.oneCell']) (by unfold maxLen; omega) (by omega) (by have := hB3.size; simp; omega) ?_)
                    intro vo3 w8 ho3 hg3 _
                    have hB4 := (hB3.alloc hB3.size _).grown hg3 (by have := hB3.size; simp; omega) (fun k hk => by have := (ho2.lt k hk).1; omega)
                    have ho4 := owns_snocI (x := ⟨xo, xr, xsS, xn⟩) ho3
                    have hm4 := (hm3.alloc (.cells #[.int .i64 xo, .int .i64 xr, .int .i64 xsS, .int .i64 xn] 74)).kept hg3 (own_ne (hm3.alloc (.cells #[.int .i64 xo, .int .i64 xr, .int .i64 xsS, .int .i64 xn] 74)) (ho2.alloc (.cells #[.int .i64 xo, .int .i64 xr, .int .i64 xsS, .int .i64 xn] 74)) (by decide))
                    go_wp2_with fail
                    exact ⟨⟨m + 1, L1 ++ [⟨xo, xr, xsS, xn⟩], M ++ [(L.length : Int)], by omega, by go_num, by simp; omega, Lib.hid (by have := HM.out; simp [this]), Lib.hid ⟨by rw [HF.out, ← HL1.out, HLM.out.1], by rw [HMS.out, HLM.out.1, HLM.out.2]⟩, ho4, hm4, hB4⟩, by simp [intOf] <;> omega⟩
                · obtain rfl : m = xs.length := by omega
                  cases hh : hasS ss k xs.length
                  · have HF : Hid (pcs (putP ss k xs) (xs.length + 1) = pcs (putP ss k xs) xs.length) := Lib.hid (by rw [HS'.out, putP_end, hh]; simp)
                    rw [hh] at hH
                    have HH := Lib.hid hH
                    clear hH hh
                    go_wp2_with fail
                    refine HH.out.mono ?_
                    rintro e w' ⟨rfl, rfl⟩
                    go_wp2_with fail
                    exact ⟨⟨xs.length + 1, L, M ++ [(L.length : Int)], by omega, by go_num, by omega, Lib.hid (by have := HM.out; simp [this]), Lib.hid ⟨by rw [HF.out, HLM.out.1], by rw [HMS.out, HLM.out.1, HLM.out.2]⟩, hO1, hm2, hB2⟩, by simp [intOf] <;> omega⟩
                  · have HF : Hid (pcs (putP ss k xs) (xs.length + 1) = pcs (putP ss k xs) xs.length ++ [fenceI]) := Lib.hid (by rw [HS'.out, putP_end, hh]; rfl)
                    rw [hh] at hH
                    have HH := Lib.hid hH
                    clear hH hh
                    go_wp2_with fail
                    refine HH.out.mono ?_
                    rintro e w' ⟨rfl, rfl⟩
                    go_wp2_with (at_builtin; refine wpList_append_own _ rfl _ _ 57 rfl (wo.heap.size) 74 ss_ (.agg #[.int .i64 0, .int .i64 0, .int .i64 0, .int .i64 0]) 4 32 Try.underlying57 hss_ hss_z0 hss_z1 hss_z2 rfl (by decide) _ _ _ rfl (hO1.alloc _) ⟨w1.heap.size, 0, none⟩ 1 1 [.int .i64 4, .int .i64 0, .int .i64 0, .int .i64 0] rfl rfl (new_cells _ _ _) (by simp [Value.oneCell']) (by unfold maxLen; omega) (by omega) (by have := hB2.size; simp; omega) ?_)
                    intro vo1 w6 ho1 hg2 _
                    have hB3 := (hB2.alloc hB2.size _).grown hg2 (by have := hB2.size; simp; omega) (fun k hk => by have := (hO1.lt k hk).1; omega)
                    have ho2 := owns_snocI (x := fenceI) ho1
                    have hm3 := (hm2.alloc (.cells #[.int .i64 4, .int .i64 0, .int .i64 0, .int .i64 0] 74)).kept hg2 (own_ne (hm2.alloc (.cells #[.int .i64 4, .int .i64 0, .int .i64 0, .int .i64 0] 74)) (hO1.alloc (.cells #[.int .i64 4, .int .i64 0, .int .i64 0, .int .i64 0] 74)) (by decide))
                    have hW3 := hWr.trans (hB3.mono hWr.size)
                    clear c0 c1 c2 ho1 hg2
                    obtain ⟨c0, c1⟩ := HPB.out _ hW3
                    have c2 := HROW.out _ hW3
                    go_wp2_with fail
                    exact ⟨⟨xs.length + 1, L ++ [fenceI], M ++ [(L.length : Int)], by omega, by go_num, by simp; omega, Lib.hid (by have := HM.out; simp [this]), Lib.hid ⟨by rw [HF.out, HLM.out.1], by rw [HMS.out, HLM.out.1, HLM.out.2]⟩, ho2, hm3, hB3⟩, by simp [intOf] <;> omega⟩
              · obtain rfl : m = xs.length + 1 := by omega
                have hO1 := hOq
                have hm2 := hMq
                have hB2 := hBq
                have hm1 : True := trivial
                have hg1 : True := trivial
                have hM1e := HLM.out.2
                obtain ⟨M1, hM1⟩ : ∃ M1, M1 = M := ⟨_, rfl⟩
                rw [← hM1] at hm2 hM1e
                have hM1l : M1.length = xs.length + 1 := by rw [hM1e, mvs_len]
                have HXR : Hid (L.map (retI M1) = rebF (putP ss k xs) xs.length) := Lib.hid (by rw [HLM.out.1, hM1e]; rfl)
                have HTL : Hid (∀ i ∈ L, i.o = 6 → 0 ≤ i.n ∧ i.n < M1.length) := Lib.hid fun i hi h6 => by
                  rw [HLM.out.1] at hi
                  obtain ⟨j, hj⟩ := pcs_mem hi
                  have := putP_tgt HTG.out hj h6
                  omega
                have hM16 : M1.length ≤ 17 := by omega
                clear hM1e hM1l
                subst hM1
                obtain ⟨AM, cM, rfl, hcM, hcMm⟩ := owns_slice hm2
                have kgw := kg.below hB2 kg.lt
                have HKEEP := Lib.hid (And.intro hO (And.intro hI (And.intro HBS.out (And.intro hB (And.intro hszr kg)))))
                clear hO hI hB hszr kg hOq hMq hBq kgw hm1 hg1
                go_wp2_with fail
                go_loopw [12] (fun j ws => ∃ z : Nat, z ≤ L.length ∧ j = .int .i64 z ∧ ws.ownsRow wo.heap.size 74 4 (.slice AO L.length cO) L.length (flc (retAt M1 L z)) ∧ ws.ownsRow wo.heap.size 3 1 (.slice AM M1.length cM) M1.length (ints M1) ∧ Below wo.heap.size wo ws) (fun j _ => L.length - (intOf j).toNat)
                case atStart => exact ⟨0, Nat.zero_le _, rfl, by rw [retAt_zero]; exact hO1, hm2, hB2⟩
                case round =>
                  obtain ⟨z, hz, rfl, hOr, hMr, hBr⟩ := hrel
                  clear hO1 hm2 hB2
                  by_cases hzl : z < L.length
                  · obtain ⟨g, rfl⟩ := owns_formS hOr (by omega)
                    obtain ⟨x, hxm⟩ : ∃ x, L[z]? = some x := ⟨_, List.getElem?_eq_getElem hzl⟩
                    have hq := retAt_at (M := M1) hxm
                    have hx0 : wr.cell? ⟨g, z * 4, none⟩ = some (.int .i64 x.o) := (hOr.cellAt (z * 4) (by omega)).trans (flc_at hq 0 (by omega))
                    have hx3 : wr.cell? ⟨g, z * 4 + 3, none⟩ = some (.int .i64 x.n) := (hOr.cellAt (z * 4 + 3) (by omega)).trans (flc_at hq 3 (by omega))
                    have hfz := hOr.frozenAt (z * 4 + 3)
                    have HXM := Lib.hid hxm
                    clear hxm hq
                    by_cases h6 : x.o = 6
                    · obtain ⟨xo, xr, xsS, xn⟩ := x
                      simp only at h6
                      subst h6
                      obtain ⟨hn0, hn1⟩ := HTL.out ⟨6, xr, xsS, xn⟩ (List.mem_of_getElem? HXM.out) rfl
                      simp only at hx0 hx3 hn0 hn1
                      obtain ⟨g2, rfl⟩ := owns_formS hMr (by omega)
                      obtain ⟨y, hy⟩ : ∃ y, M1[xn.toNat]? = some y := ⟨_, List.getElem?_eq_getElem (by omega)⟩
                      have hyc : wr.cell? ⟨g2, xn.toNat, none⟩ = some (.int .i64 y) := (hMr.cellAt xn.toNat (by omega)).trans (by simp [ints, hy])
                      have hst := hOr.stored (z * 4 + 3) (.int .i64 y)
                      have HRs := Lib.hid (retAt_snoc (M := M1) HXM.out)
                      have HQ' := Lib.hid (retAt_at (M := M1) HXM.out)
                      have HRI : Hid (retI M1 ⟨6, xr, xsS, xn⟩ = ⟨6, xr, xsS, y⟩) := Lib.hid (by simp [retI, hy])
                      have hb1 : xn < (M1.length : Int) := by omega
                      have HY := Lib.hid hy
                      clear hy
                      have hO3 : (wr.setCell ⟨g, z * 4 + 3, none⟩ (.int .i64 y)).ownsRow wo.heap.size 74 4 (.slice (some ⟨g, 0, none⟩) L.length cO) L.length (flc (retAt M1 L (z + 1))) := by
                        rw [HRs.out, HRI.out, ← flc_set HQ'.out]
                        exact hst.1
                      have hM3 := hMr.kept hst.2 (own_ne hMr hOr (by decide))
                      have hB3 := hBr.setCell (p := ⟨g, z * 4 + 3, none⟩) (hOr.lt g rfl).1 (.int .i64 y)
                      clear hst
                      go_wp2_with fail
                      exact ⟨⟨z + 1, by omega, by go_num, hO3, hM3, hB3⟩, by simp [intOf]; omega⟩
                    · have hq6 : (x.o == 6) = false := by simp [h6]
                      have HRs := Lib.hid (retAt_keep (M := M1) HXM.out h6)
                      clear h6
                      go_wp2_with fail
                      exact ⟨⟨z + 1, by omega, by go_num, by rw [HRs.out]; exact hOr, hMr, hBr⟩, by simp [intOf]; omega⟩
                  · obtain rfl : z = L.length := by omega
                    rw [retAt_all, HXR.out] at hOr
                    obtain ⟨hO, hI, hBS, hB, hszr, kg⟩ := HKEEP.out
                    have hll : L.length = (rebF (putP ss k xs) xs.length).length := by rw [← HXR.out, List.length_map]
                    obtain ⟨n9, hn9⟩ : ∃ n9, L.length = n9 := ⟨_, rfl⟩
                    obtain ⟨R9, hR9⟩ : ∃ R9, rebF (putP ss k xs) xs.length = R9 := ⟨_, rfl⟩
                    rw [hR9] at hOr hll HOX
                    rw [hll] at hOr ⊢
                    have hBa := hBr.alloc hBr.size (.cells #[.slice AO R9.length cO] 57)
                    have hOrow := (ownsRow_below hO hBr).alloc (.cells #[.slice AO R9.length cO] 57)
                    obtain ⟨bs9, hI9, hN9, hl9⟩ := row_more (lo := w3.heap.size + 1) hI hBS.1 hBa (hOr.alloc (.cells #[.slice AO R9.length cO] 57)) (by decide) hBS.2 hszr
                    have kgr := kg.below hBr kg.lt
                    obtain ⟨g1, f1⟩ := kgr.at_ 1 (x := .slice AR k cR) rfl
                    have hBr2 := hB.trans (hBr.mono hB.size)
                    have H9 := Lib.hid (And.intro hI9 (And.intro hN9 (And.intro hl9 (And.intro hOrow kgr))))
                    rw [← HOX.out] at H9
                    have hOx := ownsRow_below hO hBr
                    clear hI9 hN9 hl9 hOrow kgr hI hBS hB hszr kg hO hOr hMr hBa hn9 hR9
                    go_wp2_with (at_builtin; refine wpList_append_own _ rfl _ _ 31 rfl ((w3.heap.size + 1)) 57 q (.slice none 0 0) 1 24 Try.underlying31 hq hqz0 hqz1 hqz2 rfl (by decide) _ _ _ rfl (hOx.alloc _) ⟨wr.heap.size, 0, none⟩ 1 1 [.slice AO R9.length cO] rfl rfl (new_cells _ _ _) (by simp [Value.oneCell']) (by unfold maxLen; omega) (by omega) (by have := hBr2.size; simp; omega) ?_)
                    intro v7 w7 ho7 hg7 _
                    have hB7 := (hBr2.alloc hBr2.size _).grown hg7 (by have := hBr2.size; simp; omega) (fun k hk => by have := (hOx.lt k hk).1; omega)
                    obtain ⟨A7, c7, rfl, -, -⟩ := owns_slice ho7
                    obtain ⟨hI9, hN9, hl9, hOrow, kgr⟩ := H9.out
                    obtain ⟨hI7, hN7⟩ := rows_stay hI9 hN9 hOrow hg7 hl9 (g := w3.heap.size) (i := 1) (Nat.lt_succ_self _) (.slice A7 (k + 1) c7)
                    have kg7 := (kgr.alloc (.cells #[.slice AO R9.length cO] 57)).grown hg7 (fun x hx => by have := (hOrow.lt x hx).1; omega)
                    obtain ⟨y1, z1⟩ := kg7.at_ 1 (x := .slice AR k cR) rfl
                    have kg8 := kg7.set_ 1 (.slice A7 (k + 1) c7)
                    have hO8 := ownsRow_setCell_below ho7 (a := ⟨w3.heap.size, 1, none⟩) (Nat.lt_succ_self _) (.slice A7 (k + 1) c7)
                    have hB8 := hB7.setCell (p := ⟨w3.heap.size, 1, none⟩) (Nat.le_refl _) (.slice A7 (k + 1) c7)
                    have hs7 := hg7.size
                    have hsr := hBr2.size
                    have HE := Lib.hid (And.intro hO8 (And.intro hI7 (And.intro hN7 (And.intro hl9 (And.intro hB8 kg8)))))
                    simp only [World.size_alloc] at hs7
                    clear hO8 hI7 hN7 hl9 hB8 kg8 hI9 hN9 hOrow kgr kg7 hB7 ho7 hg7
                    go_wp2_with fail
                    exact ⟨⟨k + 1, A7, c7, _, _, by omega, by go_num, Lib.hid (by simp [HL.out]), HE.out.1, HE.out.2.1, Lib.hid ⟨HE.out.2.2.1, HE.out.2.2.2.1⟩, HE.out.2.2.2.2.1, by simp [World.setCell]; omega, by simpa using HE.out.2.2.2.2.2⟩, by simp [intOf]; omega⟩
          · obtain rfl : k = p.x.length := by omega
            clear hin hcell
            have hOS : OwnSS wr (.slice AR p.x.length cR) (outX (putP ss) p.x p.x.length) (Classical.choose (Own.of_owns hO) ++ bss.flatten) := by
              have hc := Classical.choose_spec (Own.of_owns hO)
              have hne := ne_of_nt HBS.out.1 (owns_bk hO hc.1)
              exact ⟨us, _, bss, by rw [outX_len]; exact hc.1, hI, rfl, fun x hx y hy e => hne x hx (e ▸ hy)⟩
            obtain ⟨b9, hb9⟩ : ∃ b9, Classical.choose (Own.of_owns hO) = b9 := ⟨_, rfl⟩
            have h2 := (Classical.choose_spec (Own.of_owns hO)).2
            rw [hb9] at hOS h2
            have hsw := HSW.out
            have hbl : ∀ x ∈ b9 ++ bss.flatten, w3.heap.size + 1 ≤ x := fun x hx => by
              rcases List.mem_append.1 hx with hx | hx
              · exact h2 x hx
              · exact HBS.out.2 x hx
            have hC4 := spec_ProgOk _ (putR p ss) wr (by rw [show (putR p ss).x = outX (putP ss) p.x p.x.length from rfl]; exact hOS.rd)
            rw [show (putR p ss).c = p.c from rfl] at hC4
            have KG := Lib.hid kg
            obtain ⟨q0, -⟩ := kg.at_ 0 (x := .int .i64 p.c) rfl
            obtain ⟨q1, -⟩ := kg.at_ 1 (x := .slice AR p.x.length cR) rfl
            have HOS := Lib.hid (And.intro hOS hbl)
            have HWR := Lib.hid hWr
            clear hO hI hB kg hOS hbl h2 hb9 hWr
            cases hok4 : progOkF (putR p ss)
            · have HN : Hid (putF p ss = none) := Lib.hid (by simp [putF, hok4])
              rw [hok4] at hC4
              have HC4 := Lib.hid hC4
              clear hC4 hok4
              go_wp2_with fail
              refine HC4.out.mono ?_
              rintro e w5 ⟨rfl, hb5'⟩
              have hb5 := HWR.out.trans (hb5'.mono HWR.out.size)
              have kz := (K2.out.below hb5 K2.out.lt)
              obtain ⟨y0, f0⟩ := kz.at_ 0 (x := .int .i64 0) rfl
              have kza := kz.set_ 0 (.int .i64 0)
              obtain ⟨y1, f1⟩ := kza.at_ 1 (x := .slice none 0 0) rfl
              have kzb := kza.set_ 1 (.slice none 0 0)
              obtain ⟨r0, -⟩ := kzb.at_ 0 (x := .int .i64 0) rfl
              obtain ⟨r1, -⟩ := kzb.at_ 1 (x := .slice none 0 0) rfl
              clear kz kza kzb
              clear hb5' q0 q1 c0 c1
              go_wp2_with fail
              exact bodyPost_ret (v := .tuple #[.agg #[.int .i64 0, .slice none 0 0], .bool false]) (by simp [results, Try.results17, go_sem, r0, r1]) rfl (HNONE.out _ hb5 HN.out)
            · have HN : Hid (putF p ss = some (putR p ss)) := Lib.hid (by simp [putF, hok4, HOK.out, HSP.out])
              rw [hok4] at hC4
              have HC4 := Lib.hid hC4
              clear hC4 hok4
              go_wp2_with fail
              refine HC4.out.mono ?_
              rintro e w5 ⟨rfl, hb5'⟩
              have hb5 := HWR.out.trans (hb5'.mono HWR.out.size)
              have k25 := K2.out.below hb5 K2.out.lt
              have kq5 := KG.out.below hb5' KG.out.lt
              have ho5 := HOS.out.1.below hb5'
              clear q0 q1 c0 c1
              obtain ⟨q0, -⟩ := kq5.at_ 0 (x := .int .i64 p.c) rfl
              obtain ⟨q1, -⟩ := kq5.at_ 1 (x := .slice AR p.x.length cR) rfl
              obtain ⟨y0, f0⟩ := k25.at_ 0 (x := .int .i64 0) rfl
              have k2a := k25.set_ 0 (.int .i64 p.c)
              obtain ⟨y1, f1⟩ := k2a.at_ 1 (x := .slice none 0 0) rfl
              have k2b := k2a.set_ 1 (.slice AR p.x.length cR)
              obtain ⟨r0, -⟩ := k2b.at_ 0 (x := .int .i64 p.c) rfl
              obtain ⟨r1, -⟩ := k2b.at_ 1 (x := .slice AR p.x.length cR) rfl
              have hOF := (ho5.far (b := w.heap.size + 1) (i := 0) (u := .int .i64 p.c) fun x hx => by have := HOS.out.2 x hx; omega).far (b := w.heap.size + 1) (i := 1) (u := .slice AR p.x.length cR) fun x hx => by have := HOS.out.2 x hx; omega
              have hBF := ((HB0.out.trans (hb5.mono HB0.out.size)).setCell (p := ⟨w.heap.size + 1, 0, none⟩) (by show w.heap.size ≤ w.heap.size + 1; omega) (.int .i64 p.c)).setCell (p := ⟨w.heap.size + 1, 1, none⟩) (by show w.heap.size ≤ w.heap.size + 1; omega) (.slice AR p.x.length cR)
              have HE := Lib.hid (And.intro hOF (And.intro hBF fun x hx => Nat.le_trans (by omega : w.heap.size ≤ w3.heap.size + 1) (HOS.out.2 x hx)))
              clear hOF hBF ho5 k25 kq5 k2a k2b hb5'
              go_wp2_with fail
              exact bodyPost_ret (v := .tuple #[.agg #[.int .i64 p.c, .slice AR p.x.length cR], .bool true]) (by simp [results, Try.results17, go_sem, r0, r1]) rfl ⟨_, _, by rw [HN.out]; rfl, by rw [HN.out]; exact HE.out.1, HE.out.2.2, HE.out.2.1⟩
end Go.Proofs.Ytgbgjlmkmlhefaa
