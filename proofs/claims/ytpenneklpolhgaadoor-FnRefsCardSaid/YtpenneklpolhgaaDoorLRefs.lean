/- FnRefs answers true at every code: along a drawn play a freed reference is never good again, and there are as many live objects as references that were not freed. No condition but the library's handle. -/
import Derived.Test.YtpenneklpolhgaaDoorLaw
import Derived.Test.YtpenneklpolhgaaDoorLaidH
import Derived.Test.YtpenneklpolhgaaDoorVS
import Derived.Test.YtpenneklpolhgaaDoorH20
import Derived.Test.YtpenneklpolhgaaDoorH17
import Derived.Test.YtpenneklpolhgaaDoorH19
import Derived.Test.YtpenneklpolhgaaDoorH11
import Derived.Test.YtpenneklpolhgaaDoorH7
import Derived.Test.YtpenneklpolhgaaDoorHeadsR
namespace Go.Proofs.YtpenneklpolhgaaDoor
set_option maxRecDepth 20000
set_option linter.unusedSimpArgs false
set_option linter.unusedVariables false
open Go.ChangeShapes Go.WideShapes Go.ChangeAt Go.RowKit
set_option linter.unusedVariables false
set_option maxHeartbeats 800000 in
theorem lawSameR (v u : Value) (xs : List Int) (w : World) (h : Rd w v 1 xs.length (ints xs)) (h' : Rd w u 1 xs.length (ints xs)) :
    Calls Tryd.prog 25 #[v, u] w fun e w' => e = .returned (.bool true) ∧ Below w.heap.size w w' := by
  obtain ⟨A, c, rfl, -, hnc, hc, hr⟩ := h
  obtain ⟨A', c', rfl, -, hnc', hc', hr'⟩ := h'
  unfold maxLen at hc hc'
  go_enter Tryd.func25, Tryd.ntmps25
  go_wp2
  go_loopw [5] (fun i wr => ∃ k nq : Nat, k ≤ xs.length ∧ i = .int .i64 k ∧ wr = w.drewN nq) (fun i _ => xs.length - (intOf i).toNat)
  case atStart => exact ⟨0, 0, Nat.zero_le _, rfl, rfl⟩
  case round =>
    obtain ⟨k, nq, hk, rfl, rfl⟩ := hrel
    by_cases hlt : k < xs.length
    · obtain ⟨b, o, rfl, hb, hcell⟩ := hr (by omega)
      obtain ⟨b', o', rfl, hb', hcell'⟩ := hr' (by omega)
      obtain ⟨x, hxk, hx⟩ := int_at hcell hlt
      obtain ⟨y, hyk, hy⟩ := int_at (k := k) hcell' hlt
      obtain rfl : x = y := Option.some.inj (hxk.out.symm.trans hyk.out)
      clear hcell hcell' hr hr'
      go_wp2_with fail
      go_quiet (fail)
      go_wp2
      exact ⟨⟨k + 1, _, by omega, by go_num, rfl⟩, by simp [intOf]; omega⟩
    · go_wp2_with fail
      go_ret
      exact ⟨rfl, below_more (Below.refl _ _) _⟩
set_option maxHeartbeats 400000 in
theorem lawbigR (A : Option Addr) (n c : Nat) (w : World) (hnc : n ≤ c) (hc : c ≤ 9223372036854775807) :
    Calls Tryd.prog 23 #[.slice A n c] w fun e w' => e = .returned (.bool (decide ((1048576 : Int) < n))) ∧ w = w' := by
  go_enter Tryd.func23, Tryd.ntmps23
  go_wp2_with fail
  go_ret
  exact ⟨rfl, rfl⟩
set_option maxHeartbeats 8000000 in
theorem walk_Refs (A : Option Addr) (n c : Nat) (w : World) (h : Byt w A n) (hnc : n ≤ c) (hc : c ≤ 9223372036854775807) (hT : ErrTy w) :
    Calls Tryd.prog 5 #[.slice A n c] w fun e w' => e = .returned (.bool true) ∧ Below w.heap.size w w' := by
  by_cases hn : (1048576 : Int) < n
  · go_enter Tryd.func5, Tryd.ntmps5
    go_wp2_with (go_at_call 23; refine (lawbigR _ _ _ _ hnc hc).mono ?_; rintro e w' ⟨rfl, rfl⟩)
    go_ret
    exact ⟨rfl, Below.refl _ _⟩
  · go_enter Tryd.func5, Tryd.ntmps5
    go_wp2_with (go_at_call 23; refine (lawbigR _ _ _ _ hnc hc).mono ?_; rintro e w' ⟨rfl, rfl⟩)
    refine (DrawPlayHeap A n c _ h hnc hc (by omega)).mono ?_
    rintro e w1 ⟨m, v, ops, rfl, ⟨hm0, hm1⟩, hol, hO1, hb1⟩
    have hR1 := owns_rd hO1
    obtain ⟨Ao, co, rfl, -, hoc1, hoc2, -⟩ := id hR1
    unfold maxLen at hoc2
    obtain ⟨ir, hir, hirz0, hirz1, hirz2⟩ := info_parts infoRef
    obtain ⟨ib, hib, hibz0, hibz1, hibz2⟩ := info_parts infoBool
    have hwm : (Lit.int .i64 m).wf = true := WalkArith.wf_i64 (by omega)
    have HT := Lib.hid hT
    have HR1 := Lib.hid hR1
    have HB1 := Lib.hid hb1
    have htot := play_tot m ops
    obtain ⟨H, hH⟩ : ∃ H, playH m ops = H := ⟨_, rfl⟩
    obtain ⟨T, hTT⟩ : ∃ T, playT m ops = T := ⟨_, rfl⟩
    rw [hH, hTT] at htot
    have HH := Lib.hid hH
    have HTT := Lib.hid hTT
    have HS := spec_PlayHeap m _ ops w1 hR1
    rw [hH, hTT] at HS
    have hglen : H.g.length ≤ 48 ∧ H.l.length ≤ 48 ∧ T.length ≤ 300 := by have := htot.1; unfold totHp at this; omega
    have HS := Lib.hid HS
    clear h hO1 hR1 hb1 hT hH hTT htot
    go_wp2_with fail
    refine HS.out.mono ?_
    rintro e w2 ⟨gv2, lv2, bs2, v2, bt2, rfl, ho2, ht2, -, -, -, hb2⟩
    obtain ⟨A2, c2, B2, d2, rfl, rfl⟩ := ho2.slices
    obtain ⟨At, ct, rfl, -, -⟩ := ht2.slice
    have k5 := Bk.new w2 #[.slice A2 H.g.length c2, .slice B2 H.l.length d2] 29
    have hb3 := (Below.refl _ w2).alloc (Nat.le_refl _) (.cells #[.slice A2 H.g.length c2, .slice B2 H.l.length d2] 29)
    obtain ⟨w3, hw3⟩ : ∃ w3, w2.alloc (.cells #[.slice A2 H.g.length c2, .slice B2 H.l.length d2] 29) = w3 := ⟨_, rfl⟩
    rw [hw3] at k5 hb3
    have HW3 := Lib.hid hw3
    have HT3 := Lib.hid (ht2.below hb3)
    have hB3 := hb2.trans (hb3.mono hb2.size)
    have HI := impl_PlayHeap m _ ops w3 (HR1.out.below hB3) hwm (HT.out.below (HB1.out.trans (hB3.mono HB1.out.size)) (Nat.le_refl _))
    rw [HH.out, HTT.out] at HI
    have HI := Lib.hid HI
    have HB3 := Lib.hid hB3
    have K5 := Lib.hid k5
    clear HS ho2 ht2 hb2 hb3 hw3 hB3 k5
    go_upto_region 5 with (fail)
    rw [HW3.out]
    go_wp2_with fail
    refine HI.out.mono ?_
    rintro e w4 ⟨gv4, lv4, bs4, v4, bt4, rfl, ho4, ht4, -, -, -, hb4⟩
    obtain ⟨A4, c4, B4, d4, rfl, rfl⟩ := ho4.slices
    obtain ⟨Au, cu, rfl, -, -⟩ := ht4.slice
    have k7 := Bk.new w4 #[.slice A4 H.g.length c4, .slice B4 H.l.length d4] 29
    have hb5 := (Below.refl _ w4).alloc (Nat.le_refl _) (.cells #[.slice A4 H.g.length c4, .slice B4 H.l.length d4] 29)
    obtain ⟨w5, hw5⟩ : ∃ w5, w4.alloc (.cells #[.slice A4 H.g.length c4, .slice B4 H.l.length d4] 29) = w5 := ⟨_, rfl⟩
    rw [hw5] at k7 hb5
    have HW5 := Lib.hid hw5
    have hb45 := hb4.trans (hb5.mono hb4.size)
    have HSM := Lib.hid (lawSameR _ _ T w5 (ht4.below hb5).rd (HT3.out.below hb45).rd)
    have HO5 := Lib.hid (ho4.below hb5)
    have K7 := Lib.hid k7
    have HK5 := Lib.hid (K5.out.below hb45 K5.out.lt)
    have HB5 := Lib.hid (HB3.out.trans (hb45.mono HB3.out.size))
    clear HI ho4 ht4 hb4 hb5 hw5 k7 hb45
    go_upto_region 6 with (fail)
    rw [HW5.out]
    have hll : ((H.g.length : Int) != (H.g.length : Int)) = false := by simp
    by_cases hz : H.g.length = 0
    · have hz0 : ((H.g.length : Int) == 0) = true := by simp [hz]
      go_wp2_with (go_at_call 25; refine HSM.out.mono ?_; rintro e w6 ⟨rfl, hb6⟩; have k56 := HK5.out.below hb6 HK5.out.lt; have k76 := K7.out.below hb6 K7.out.lt; obtain ⟨x0, f0⟩ := k56.at_ 0 (x := .slice A2 H.g.length c2) rfl; obtain ⟨y0, g0⟩ := k76.at_ 0 (x := .slice A4 H.g.length c4) rfl)
      go_ret
      exact ⟨rfl, (HB1.out.trans (HB5.out.mono HB1.out.size)).trans (hb6.mono (HB1.out.trans (HB5.out.mono HB1.out.size)).size)⟩
    · have hz0 : ((H.g.length : Int) == 0) = false := by simp [hz]
      have hok : playOk m ops = true := by
        cases hk : playOk m ops with
        | true => rfl
        | false =>
          exfalso
          have := (play_no hk).1
          rw [HH.out] at this
          rw [this] at hz
          exact hz rfl
      have HY : Hid ((playK m ops ops.length).h = H) := Lib.hid (by rw [← HH.out]; exact (play_yes hok).1.symm)
      simp only [playOk, Bool.and_eq_true, decide_eq_true_eq] at hok
      obtain ⟨hin, h300⟩ := hok
      have HIN := Lib.hid hin
      have HNH := Lib.hid (fun W => impl_NewHeap m W hwm)
      rw [hin] at HNH
      clear hin hz
      go_wp2_with (go_at_call 25; refine HSM.out.mono ?_; rintro e w6 ⟨rfl, hb6⟩; have k56 := HK5.out.below hb6 HK5.out.lt; have k76 := K7.out.below hb6 K7.out.lt; obtain ⟨x0, f0⟩ := k56.at_ 0 (x := .slice A2 H.g.length c2) rfl; obtain ⟨y0, g0⟩ := k76.at_ 0 (x := .slice A4 H.g.length c4) rfl)
      refine (HNH.out _).mono ?_
      rintro e w7 ⟨gv7, lv7, bs7, rfl, ho7, hlo7, hb7⟩
      obtain ⟨A7, c7, B7, d7, rfl, rfl⟩ := ho7.slices
      have hi7 := ho7.lt
      have HB7 := Lib.hid (HB5.out.trans ((hb6.trans (hb7.mono hb6.size)).mono HB5.out.size))
      have K77 := Lib.hid (k76.below hb7 k76.lt)
      obtain ⟨N, hN⟩ : ∃ N, newHp m = N := ⟨_, rfl⟩
      rw [hN] at ho7 ⊢
      have HNN := Lib.hid hN
      have HO7 := Lib.hid (HO5.out.below (hb6.trans (hb7.mono hb6.size)))
      have r0 := World.ownsRow_lit (base := w7.heap.size + 1) (e := 33) (size := 2) (w7.alloc (.cells #[.slice A7 N.g.length c7, .slice B7 N.l.length d7] 29)) #[] 0 (by simp) (by simp [maxLen]) rfl
      have t0 := World.ownsRow_lit (base := w7.heap.size + 1) (e := 4) (size := 1) ((w7.alloc (.cells #[.slice A7 N.g.length c7, .slice B7 N.l.length d7] 29)).alloc (.cells #[] 33)) #[] 0 (by simp) (by simp [maxLen]) rfl
      have hbA := ((Below.refl w7.heap.size w7).alloc (Nat.le_refl _) (.cells #[.slice A7 N.g.length c7, .slice B7 N.l.length d7] 29)).alloc (by simp) (.cells #[] 33)
      have hbB := hbA.alloc hbA.size (.cells #[] 4)
      have hP0 : RfS w7 (((w7.alloc (.cells #[.slice A7 N.g.length c7, .slice B7 N.l.length d7] 29)).alloc (.cells #[] 33)).alloc (.cells #[] 4)) (.slice A7 N.g.length c7) (.slice B7 N.l.length d7) (.slice (some ⟨w7.heap.size + 1, 0, none⟩) 0 0) (.slice (some ⟨w7.heap.size + 1 + 1, 0, none⟩) 0 0) (playK m ops 0).h (playK m ops 0).rs [] bs7 := by
        rw [playK_zero, HNN.out]
        refine ⟨((Bk.new w7 #[.slice A7 N.g.length c7, .slice B7 N.l.length d7] 29).alloc _).alloc _, ho7.below hbB, ?_, ?_, ?_, ?_, fun hm => by have := hi7 _ hm; omega, by simp, hbB⟩
        · simpa [flc2, fl2, ints] using r0.alloc (.cells #[] 4)
        · simpa [bools] using t0
        · intro q hq hm
          simp [Value.ownBlock] at hq
          have := hi7 q hm
          omega
        · intro q hq hm
          simp [Value.ownBlock] at hq
          have := hi7 q hm
          omega
      have hQ0 : RInv (playK m ops 0).h (playK m ops 0).rs [] := by rw [playK_zero]; exact RInv.start HIN.out
      obtain ⟨Ao', co', heo, -, -, -, hr⟩ := HR1.out.below HB7.out
      injection heo with eo1 _ eo3
      subst eo1 eo3
      clear r0 t0 hbA hbB ho7 hi7 hlo7 hb7 hb6 k56 k76 x0 f0 y0 g0
      go_wp2_with fail
      go_loopw [11, 12, 13] (fun v8 v9 i wr => ∃ (k : Nat) (gv lv v8' v9' : Value) (bs : List Nat) (fr : List Bool), k ≤ ops.length ∧ (i = .int .i64 k ∧ v8 = v8' ∧ v9 = v9') ∧ RfS w7 wr gv lv v8' v9' (playK m ops k).h (playK m ops k).rs fr bs ∧ RInv (playK m ops k).h (playK m ops k).rs fr) (fun _ _ i _ => ops.length - (intOf i).toNat)
      case atStart => exact ⟨0, _, _, _, _, bs7, [], Nat.zero_le _, ⟨rfl, rfl, rfl⟩, hP0, hQ0⟩
      case round =>
        obtain ⟨k, gv, lv, v8, v9, bs, fr, hk, ⟨rfl, rfl, rfl⟩, hP, hQ⟩ := hrel
        clear hP0 hQ0
        have hlk := playK_len m ops k hk
        obtain ⟨⟨h, rs, t⟩, hs⟩ : ∃ s, playK m ops k = s := ⟨_, rfl⟩
        rw [hs] at hP hQ hlk
        dsimp only at hP hQ hlk
        obtain ⟨Ah, ch, Bh, dh, rfl, rfl, -⟩ := hP.hp.rd.slices
        obtain ⟨A8, c8, rfl⟩ := owns_form hP.refs
        obtain ⟨A9, c9, rfl⟩ := owns_form hP.frees
        have hl := hP.lt
        have HPP := Lib.hid hP
        have HQQ := Lib.hid hQ
        obtain ⟨y0, f0⟩ := hP.box.at_ 0 (x := .slice Ah h.g.length ch) rfl
        obtain ⟨y1, f1⟩ := hP.box.at_ 1 (x := .slice Bh h.l.length dh) rfl
        have lH := hP.box.lt
        have HS := Lib.hid hs
        have hfl : fr.length ≤ rs.length ∧ rs.length ≤ fr.length := by have := hQ.len; omega
        by_cases hlt : k < ops.length
        · obtain ⟨b, o, rfl, hb, hcell⟩ := hr (by omega)
          obtain ⟨⟨xa, xb⟩, hxk, x0, x1⟩ := p2_at hcell hlt
          dsimp only at x0 x1
          have HX0 := Lib.hid (fun (W : World) (hW : Below w7.heap.size w7 W) => (hW.cell (p := ⟨b, o + k * 2, none⟩) hb).trans x0)
          have HX1 := Lib.hid (fun (W : World) (hW : Below w7.heap.size w7 W) => (hW.cell (p := ⟨b, o + k * 2 + 1, none⟩) hb).trans x1)
          have z0 := HX0.out wr hP.bel
          have z1 := HX1.out wr hP.bel
          have hKS := playK_succ (n := m) hxk.out
          rw [hs] at hKS
          have HKS := Lib.hid hKS
          have hsz : h.g.length ≤ 16777215 ∧ h.l.length ≤ 16777215 := ⟨by omega, by omega⟩
          have hrl : rs.length ≤ 300 := by omega
          have hbw : b < wr.heap.size := Nat.lt_of_lt_of_le hb hP.bel.size
          have hb7 : b ≠ w7.heap.size := by omega
          clear hcell hr hs hKS hlk x0 x1
          by_cases h0 : xa = 0
          · have HA := Lib.hid (impl_AllocObj _ _ h wr HPP.out.hp.rd hsz)
            subst h0
            clear hP hQ z1
            go_wp2_with fail
            refine HA.out.mono ?_
            rintro e w8 ⟨gv8, lv8, bs8, rfl, ho8, hbs8, hb8⟩
            obtain ⟨A3, c3, B3, d3, rfl, rfl⟩ := ho8.slices
            have kb8 := HPP.out.box.below hb8 lH
            obtain ⟨u0, e0⟩ := kb8.at_ 0 (x := .slice Ah h.g.length ch) rfl
            obtain ⟨u1, e1⟩ := kb8.at_ 1 (x := .slice Bh h.l.length dh) rfl
            have lH2 := kb8.lt
            have hs12 := hb8.size
            obtain ⟨h', hh'⟩ : ∃ h', allocH h = h' := ⟨_, rfl⟩
            obtain ⟨⟨ra, rb⟩, hrr⟩ : ∃ r, allocR h = r := ⟨_, rfl⟩
            rw [hh'] at ho8 ⊢
            have PH := HPP.out.heap hb8 ho8 hbs8
            rw [hrr]
            have HH' := Lib.hid hh'
            have HRR := Lib.hid hrr
            have PV := PH.below (((Below.refl _ _).alloc (Nat.le_refl _) (.cells #[.slice A3 h'.g.length c3, .slice B3 h'.l.length d3] 29)).alloc (by simp) (.cells #[.int .i64 ra, .int .i64 rb] 33))
            dsimp only
            clear hh' hrr kb8 ho8 hbs8 hb8 HA y0 y1 f0 f1 z0 PH
            cases hok : allocOk h
            · have hst := stepS_full (s := ⟨h, rs, t⟩) (op := ⟨0, xb⟩) rfl hok
              have hks : playK m ops (k + 1) = ⟨h', rs, t ++ [-1]⟩ := by rw [HKS.out, hst, ← HH'.out]
              have hq : RInv h' rs fr := by rw [← HH'.out, (allocH_no hok).1]; exact HQQ.out
              have HRES := Lib.hid (And.intro hks hq)
              clear hst hok hks hq
              go_upto_region 24 with (fail)
              obtain ⟨WZ, hWZ⟩ : ∃ WZ, WZ = (((w8.setCell ⟨w7.heap.size, 0, none⟩ (.slice A3 h'.g.length c3)).setCell ⟨w7.heap.size, 1, none⟩ (.slice B3 h'.l.length d3)).alloc (.cells #[.slice A3 h'.g.length c3, .slice B3 h'.l.length d3] 29)).alloc (.cells #[.int .i64 ra, .int .i64 rb] 33) := ⟨_, rfl⟩
              rw [← hWZ] at PV ⊢
              have q0 := HX0.out WZ PV.bel
              have HPV := Lib.hid PV
              clear hWZ PV u0 u1 e0 e1 lH2
              go_wp2_with fail
              exact ⟨⟨k + 1, _, _, _, _, bs8, fr, by omega, ⟨by go_num, rfl, rfl⟩, by rw [HRES.out.1]; exact HPV.out, by rw [HRES.out.1]; exact HRES.out.2⟩, by simp [intOf]; omega⟩
            · have hst := stepS_alloc (s := ⟨h, rs, t⟩) (op := ⟨0, xb⟩) rfl hok
              have hks : playK m ops (k + 1) = ⟨h', rs ++ [⟨ra, rb⟩], t ++ [ra]⟩ := by rw [HKS.out, hst]; dsimp only; rw [HH'.out, HRR.out]
              have hq : RInv h' (rs ++ [⟨ra, rb⟩]) (fr ++ [false]) := by
                have := HQQ.out.alloc hok
                rwa [HH'.out, HRR.out] at this
              have HRES := Lib.hid (And.intro hks hq)
              clear hst hok hks hq
              go_upto_region 22 with (fail)
              have q4 := Bk.new (((w8.setCell ⟨w7.heap.size, 0, none⟩ (.slice A3 h'.g.length c3)).setCell ⟨w7.heap.size, 1, none⟩ (.slice B3 h'.l.length d3)).alloc (.cells #[.slice A3 h'.g.length c3, .slice B3 h'.l.length d3] 29)) #[.int .i64 ra, .int .i64 rb] 33
              rw [show (((w8.setCell ⟨w7.heap.size, 0, none⟩ (.slice A3 h'.g.length c3)).setCell ⟨w7.heap.size, 1, none⟩ (.slice B3 h'.l.length d3)).alloc (.cells #[.slice A3 h'.g.length c3, .slice B3 h'.l.length d3] 29)).heap.size = w8.heap.size + 1 by simp [World.setCell]] at q4
              obtain ⟨WV, hWV⟩ : ∃ WV, WV = (((w8.setCell ⟨w7.heap.size, 0, none⟩ (.slice A3 h'.g.length c3)).setCell ⟨w7.heap.size, 1, none⟩ (.slice B3 h'.l.length d3)).alloc (.cells #[.slice A3 h'.g.length c3, .slice B3 h'.l.length d3] 29)).alloc (.cells #[.int .i64 ra, .int .i64 rb] 33) := ⟨_, rfl⟩
              rw [← hWV] at PV q4 ⊢
              obtain ⟨v0, -⟩ := q4.at_ 0 (x := .int .i64 ra) rfl
              obtain ⟨v1, -⟩ := q4.at_ 1 (x := .int .i64 rb) rfl
              have hRo := PV.refs
              have hbV : w7.heap.size + 1 ≤ WV.heap.size := PV.lt
              have HPV := Lib.hid PV
              clear hWV PV q4 u0 u1 e0 e1 lH2
              go_wp2_with (at_builtin; refine wpList_append_lie _ rfl _ _ 55 rfl (w7.heap.size + 1) 33 ir (.agg #[.int .i64 0, .int .i64 0]) 2 16 Tryd.underlying55 hir hirz0 hirz1 hirz2 rfl (by decide) _ _ _ rfl (hRo.alloc (.cells #[.int .i64 ra, .int .i64 rb] 33)) ⟨WV.heap.size, 0, none⟩ 1 1 [.int .i64 ra, .int .i64 rb] rfl rfl (new_cells _ _ _) (by simp [Value.oneCell']) (by unfold maxLen; omega) (by omega) (by rw [World.size_alloc]; omega) ?_)
              intro v88 w88 hO88 hg88 hl88
              have PS := (HPV.out.below ((Below.refl _ _).alloc (Nat.le_refl _) (.cells #[.int .i64 ra, .int .i64 rb] 33))).ref (r := ⟨ra, rb⟩) hg88 (owns_snoc2 (x := ⟨ra, rb⟩) hO88) (by rw [World.size_alloc]; exact hl88)
              obtain ⟨A88, c88, rfl⟩ := owns_form hO88
              have hFo := PS.frees
              have hbV8 : w7.heap.size + 1 ≤ w88.heap.size := PS.lt
              have HPS := Lib.hid PS
              clear hRo hO88 hg88 hl88 v0 v1 hbV PS
              go_upto_region 23 with (fail)
              go_wp2_with (at_builtin; refine wpList_append_lie _ rfl _ _ 23 rfl (w7.heap.size + 1) 4 ib (.bool false) 1 1 Tryd.underlying23 hib hibz0 hibz1 hibz2 rfl (by decide) _ _ _ rfl (hFo.alloc (.cells #[.bool false] 4)) ⟨w88.heap.size, 0, none⟩ 1 1 [.bool false] rfl rfl (new_cells _ _ _) (by simp [Value.oneCell']) (by unfold maxLen; omega) (by omega) (by rw [World.size_alloc]; omega) ?_)
              intro v99 w99 hO99 hg99 hl99
              have PT := (HPS.out.below ((Below.refl _ _).alloc (Nat.le_refl _) (.cells #[.bool false] 4))).flag (x := false) hg99 (by rw [List.length_append]; simpa [bools] using hO99) (by rw [World.size_alloc]; exact hl99)
              obtain ⟨A99, c99, rfl⟩ := owns_form hO99
              have q0 := HX0.out w99 PT.bel
              have HPT := Lib.hid PT
              clear hFo hO99 hg99 hl99 hbV8 PT
              go_wp2_with fail
              exact ⟨⟨k + 1, _, _, _, _, bs8, fr ++ [false], by omega, ⟨by go_num, rfl, rfl⟩, by rw [HRES.out.1]; exact HPT.out, by rw [HRES.out.1]; exact HRES.out.2⟩, by simp [intOf]; omega⟩
          · have h0' : (xa == 0) = false := by simp [h0]
            by_cases hf : xa = 1 ∧ 0 ≤ xb ∧ xb < rs.length
            · obtain ⟨rfl, hf0, hf1⟩ := hf
              obtain ⟨j, rfl⟩ := Int.eq_ofNat_of_zero_le hf0
              have hjl : j < rs.length := by omega
              obtain ⟨r, hrj⟩ : ∃ r, rs[j]? = some r := ⟨rs[j], List.getElem?_eq_getElem hjl⟩
              obtain ⟨g9, rfl⟩ := owns_some hP.frees (by omega)
              obtain ⟨A8', c8', he8, -, hnc8, hc8, hr8⟩ := owns_rd hP.refs
              injection he8 with e8 _ e9
              subst e8 e9
              obtain ⟨b8, o8, rfl, hb8, hcell8⟩ := hr8 (by omega)
              obtain ⟨r', hr', u0, u1⟩ := p2_at hcell8 hjl
              obtain rfl : r' = r := by have := hr'.out.symm.trans hrj; injection this
              obtain ⟨ra, rb⟩ := r'
              dsimp only at u0 u1
              unfold maxLen at hc8
              obtain ⟨fb, hfb⟩ : ∃ fb, fr[j]? = some fb := ⟨fr[j], List.getElem?_eq_getElem (by omega)⟩
              have hst := stepS_free (s := ⟨h, rs, t⟩) (op := ⟨1, (j : Int)⟩) rfl rfl hrj
              have hfree := HQQ.out.free hrj hfb
              obtain ⟨h', hh'⟩ : ∃ h', freeH h ⟨ra, rb⟩ = h' := ⟨_, rfl⟩
              obtain ⟨code, hcode⟩ : ∃ code, freeC h ⟨ra, rb⟩ = code := ⟨_, rfl⟩
              have hks : playK m ops (k + 1) = ⟨h', rs, t ++ [code]⟩ := by rw [HKS.out, hst]; dsimp only; rw [hh', hcode]
              have hF := fun (W : World) (hbb : Below wr.heap.size wr W) => impl_FreeObj _ _ h ⟨ra, rb⟩ W (HPP.out.hp.rd.below hbb) hsz (HT.out.below (HB1.out.trans ((HB7.out.trans (HPP.out.bel.trans (hbb.mono HPP.out.bel.size) |>.mono HB7.out.size)).mono HB1.out.size)) (Nat.le_refl _))
              rw [hh', hcode] at hF hfree
              have HF := Lib.hid hF
              have HFR := Lib.hid hfree
              have HFB := Lib.hid hfb
              have KN : Hid (Bk ((wr.alloc (.cells #[.slice none 0 0, .slice none 0 0] 29)).drew) wr.heap.size #[.slice none 0 0, .slice none 0 0] 29) := Lib.hid (Bk.new wr #[.slice none 0 0, .slice none 0 0] 29)
              have HN2 : Hid (Below wr.heap.size wr (wr.alloc (.cells #[.slice none 0 0, .slice none 0 0] 29)).drew) := Lib.hid ((Below.refl _ wr).alloc (Nat.le_refl _) _).drew
              have HND : Hid (Below wr.heap.size wr wr.drew) := Lib.hid (Below.refl _ wr).drew
              have HKSS := Lib.hid hks
              have hjf : j < fr.length := by omega
              have hjf' : (j : Int) < fr.length := by omega
              clear hF hh' hcode hst hrj hks hP hQ hr' hcell8 hr8 hfree hfb h0
              go_upto_region 25 with (fail)
              go_cut [17, 18] (fun p5 p6 wz => ∃ (g : Nat) (A3 : Option Addr) (c3 : Nat) (B3 : Option Addr) (d3 : Nat) (bs3 : List Nat), p5 = .pointer (some ⟨g, 0, none⟩) ∧ p6 = .int .i64 code ∧ Bk wz g #[.slice A3 h'.g.length c3, .slice B3 h'.l.length d3] 29 ∧ OwnHp wz (.slice A3 h'.g.length c3) (.slice B3 h'.l.length d3) h' bs3 ∧ (∀ b ∈ bs3, wr.heap.size ≤ b) ∧ wr.heap.size ≤ g ∧ Below wr.heap.size wr wz)
              case first =>
                go_region_law (first
                  | (refine step_call rfl 10 Tryd.func10 (by kernel_rfl) (by kernel_rfl) _ _ rfl #[.agg #[.slice Ah h.g.length ch, .slice Bh h.l.length dh], .agg #[.int .i64 ra, .int .i64 rb]] (by simp [Act.eval, Act.put]) (HF.out wr.drew HND.out) ?_; rintro e w8 ⟨gv1, lv1, bs3, rfl, ho3, hbs3, hb3⟩; refine ⟨_, rfl, ?_⟩; obtain ⟨A3, c3, B3, d3, rfl, rfl⟩ := ho3.slices; have t2 : Below wr.heap.size wr w8 := HND.out.trans hb3)
                  | (refine step_call rfl 10 Tryd.func10 (by kernel_rfl) (by kernel_rfl) _ _ rfl #[.agg #[.slice Ah h.g.length ch, .slice Bh h.l.length dh], .agg #[.int .i64 ra, .int .i64 rb]] (by simp [Act.eval, Act.put]) (HF.out (wr.alloc (.cells #[.slice none 0 0, .slice none 0 0] 29)).drew HN2.out) ?_; rintro e w8 ⟨gv1, lv1, bs3, rfl, ho3, hbs3, hb3⟩; refine ⟨_, rfl, ?_⟩; obtain ⟨A3, c3, B3, d3, rfl, rfl⟩ := ho3.slices; have t2 : Below wr.heap.size wr w8 := HN2.out.trans (hb3.mono HN2.out.size); have qz := KN.out.below hb3 KN.out.lt; obtain ⟨q0, e0⟩ := qz.at_ 0 (x := .slice none 0 0) rfl; obtain ⟨q1, e1⟩ := qz.at_ 1 (x := .slice none 0 0) rfl))
                all_goals go_wp2_with fail
                all_goals go_meet
                all_goals first
                  | exact ⟨w8.heap.size, A3, c3, B3, d3, bs3, rfl, rfl, Bk.new _ _ _, ho3.below ((Below.refl _ _).alloc (Nat.le_refl _) _), fun b hb => hbs3 b hb, t2.size, t2.alloc t2.size _⟩
                  | exact ⟨wr.heap.size, A3, c3, B3, d3, bs3, rfl, rfl, by simpa using (qz.set_ 0 (.slice A3 h'.g.length c3)).set_ 1 (.slice B3 h'.l.length d3), (ho3.far (fun b hb e => by have := hbs3 b hb; rw [e] at this; have := Nat.lt_of_lt_of_le KN.out.lt this; omega)).far (fun b hb e => by have := hbs3 b hb; rw [e] at this; have := Nat.lt_of_lt_of_le KN.out.lt this; omega), fun b hb => Nat.le_trans HN2.out.size (hbs3 b hb), Nat.le_refl _, (t2.setCell (Nat.le_refl _) _).setCell (Nat.le_refl _) _⟩
              case rest =>
                obtain ⟨g, A3, c3, B3, d3, bs3, rfl, rfl, hk5, ho5, hbs5, hg5, hbz⟩ := hcut
                rename World => wz
                have kbz := HPP.out.box.below hbz lH
                obtain ⟨s0, e0⟩ := kbz.at_ 0 (x := .slice Ah h.g.length ch) rfl
                obtain ⟨s1, e1⟩ := kbz.at_ 1 (x := .slice Bh h.l.length dh) rfl
                obtain ⟨s2, -⟩ := hk5.at_ 0 (x := .slice A3 h'.g.length c3) rfl
                obtain ⟨s3, -⟩ := hk5.at_ 1 (x := .slice B3 h'.l.length d3) rfl
                have ng : g ≠ w7.heap.size := by omega
                have PS := HPP.out.heap hbz ho5 hbs5
                clear kbz hk5 ho5 hbz KN HN2 HND HF y0 y1 f0 f1 u0 u1 z0 z1
                go_upto_region 27 with (fail)
                obtain ⟨WZ, hWZ⟩ : ∃ WZ, WZ = (wz.setCell ⟨w7.heap.size, 0, none⟩ (.slice A3 h'.g.length c3)).setCell ⟨w7.heap.size, 1, none⟩ (.slice B3 h'.l.length d3) := ⟨_, rfl⟩
                rw [← hWZ] at PS ⊢
                have q1 := HX1.out WZ PS.bel
                obtain ⟨A9', c9', he9, -, hnc9, hc9, hr9⟩ := owns_rd PS.frees
                injection he9 with e8 _ e9
                subst e8 e9
                obtain ⟨b9, o9, e9, hb9, hcell9⟩ := hr9 (by omega)
                injection e9 with e9
                injection e9 with e9 e10 _
                subst e9 e10
                have q2 := hcell9 j _ (bools_at HFB.out)
                have q3 : WZ.cell? ⟨g9, j, none⟩ = some (.bool fb) := by simpa using q2
                obtain ⟨bq, hq1, -⟩ := Own.of_owns PS.frees
                obtain ⟨b', o', c', he', -, -, hat, -⟩ := hq1.open_ (by omega)
                injection he' with e1' _ _
                injection e1' with e1'
                injection e1' with e2' e3' _
                subst e2' e3'
                have q5 : WZ.frozen? ⟨g9, j, none⟩ = false := by simpa using (hat j _ (bools_at HFB.out)).2
                clear hq1 hat
                unfold maxLen at hc9
                have HPS := Lib.hid PS
                have hcf := HFR.out.2
                clear hWZ PS s0 s1 s2 s3 e0 e1 ng hcell9 hr9
                have hcc : (code == 0) = !fb := by rw [← hcf]; rfl
                clear hcf
                have q4 := HX1.out (WZ.setCell ⟨g9, j, none⟩ (.bool true)) HPS.out.setf.bel
                have HPF := Lib.hid (HPS.out.setf (j := j))
                have HQF : Hid (RInv h' rs (fr.set j true)) := Lib.hid HFR.out.1
                have hfs : (fr.set j true).length = fr.length := List.length_set
                have HFS := Lib.hid hfs
                clear hfs
                cases fb
                · have hcc : (code == 0) = true := hcc
                  go_wp2_with fail
                  exact ⟨⟨k + 1, _, _, _, _, bs3, fr.set j true, by omega, ⟨by go_num, rfl, rfl⟩, by rw [HKSS.out]; exact HPF.out, by rw [HKSS.out]; exact HQF.out⟩, by simp [intOf]; omega⟩
                · have hcc : (code == 0) = false := hcc
                  go_wp2_with fail
                  exact ⟨⟨k + 1, _, _, _, _, bs3, fr.set j true, by omega, ⟨by go_num, rfl, rfl⟩, by rw [HKSS.out]; exact HPF.out, by rw [HKSS.out]; exact HQF.out⟩, by simp [intOf]; omega⟩
            · have hst := stepS_stay (s := ⟨h, rs, t⟩) (op := ⟨xa, xb⟩) h0 (fun h1 => by
                by_cases hi : inB xb 0 ((rs.length : Int) - 1) = true
                · have := inB_true hi
                  exact absurd ⟨h1, by omega, by omega⟩ hf
                · simpa using hi)
              rw [← HKS.out] at hst
              dsimp only at hst
              have HST := Lib.hid hst
              clear hst hP hQ f0 f1
              by_cases h1 : xa = 1
              · subst h1
                by_cases h2 : 0 ≤ xb
                · have h3 : ¬ xb < rs.length := fun h3 => hf ⟨rfl, h2, h3⟩
                  clear hf
                  go_wp2_with fail
                  exact ⟨⟨k + 1, _, _, _, _, bs, fr, by omega, ⟨by go_num, rfl, rfl⟩, by rw [HST.out.1, HST.out.2]; exact HPP.out, by rw [HST.out.1, HST.out.2]; exact HQQ.out⟩, by simp [intOf]; omega⟩
                · clear hf
                  go_wp2_with fail
                  exact ⟨⟨k + 1, _, _, _, _, bs, fr, by omega, ⟨by go_num, rfl, rfl⟩, by rw [HST.out.1, HST.out.2]; exact HPP.out, by rw [HST.out.1, HST.out.2]; exact HQQ.out⟩, by simp [intOf]; omega⟩
              · have h1' : (xa == 1) = false := by simp [h1]
                clear hf
                go_wp2_with fail
                exact ⟨⟨k + 1, _, _, _, _, bs, fr, by omega, ⟨by go_num, rfl, rfl⟩, by rw [HST.out.1, HST.out.2]; exact HPP.out, by rw [HST.out.1, HST.out.2]; exact HQQ.out⟩, by simp [intOf]; omega⟩
        · obtain rfl : k = ops.length := by omega
          have hHh : h = H := by have := HY.out; rw [hs] at this; exact this
          subst hHh
          have kk7 := K77.out.below hP.bel K77.out.lt
          obtain ⟨x0, -⟩ := kk7.at_ 0 (x := .slice A4 h.g.length c4) rfl
          obtain ⟨x1, -⟩ := kk7.at_ 1 (x := .slice B4 h.l.length d4) rfl
          have lK := kk7.lt
          have hLn : (liveF h).length = cntT (nots fr) := by
            rw [← hQ.cnt]
            unfold liveF
            rw [if_pos hQ.ok, liveTo_cnt h _ (Nat.le_refl _), List.take_length]
          obtain ⟨Lf, hLf⟩ : ∃ Lf, liveF h = Lf := ⟨_, rfl⟩
          rw [hLf] at hLn
          have HLN := Lib.hid hLn
          have HL : Hid (∀ W, Below wr.heap.size wr W → Calls Tryd.prog 29 #[.agg #[.slice Ah h.g.length ch, .slice Bh h.l.length dh]] W (RetP2s Lf W)) := Lib.hid fun W hW => by
            have := impl_LiveRefs _ _ h W (HPP.out.hp.rd.below hW)
            rwa [hLf] at this
          obtain ⟨re, hre⟩ : ∃ re, reF h = re := ⟨_, rfl⟩
          have HE1 : Hid (∀ W, Below wr.heap.size wr W → Calls Tryd.prog 30 #[.agg #[.slice Ah h.g.length ch, .slice Bh h.l.length dh]] W fun e w' => e = .returned (.int .i64 re) ∧ Below W.heap.size W w') := Lib.hid fun W hW => by
            have := impl_Reuses _ _ h W (HPP.out.hp.rd.below hW)
            rwa [hre] at this
          have HE2 : Hid (∀ W, Below wr.heap.size wr W → Calls Tryd.prog 30 #[.agg #[.slice A4 h.g.length c4, .slice B4 h.l.length d4]] W fun e w' => e = .returned (.int .i64 re) ∧ Below W.heap.size W w') := Lib.hid fun W hW => by
            have := impl_Reuses _ _ h W ((HO7.out.below HPP.out.bel).rd.below hW)
            rwa [hre] at this
          have hfrl : fr.length ≤ 300 := by omega
          clear hLf hre hLn kk7 hs hlk hr hP hQ f0 f1 hlt
          go_wp2_with fail
          go_loopw [19, 20] (fun l i wq => ∃ k : Nat, k ≤ rs.length ∧ i = .int .i64 k ∧ l = .int .i64 (cntT (nots (fr.take k)) : Nat) ∧ Below wr.heap.size wr wq) (fun _ i _ => rs.length - (intOf i).toNat)
          case atStart => exact ⟨0, Nat.zero_le _, rfl, by simp [nots, cntT], Below.refl _ _⟩
          case round =>
            rename World => wq
            obtain ⟨k, hk2, rfl, rfl, hB⟩ := hrel
            by_cases hlt : k < rs.length
            · obtain ⟨r, hrk⟩ : ∃ r, rs[k]? = some r := ⟨rs[k], List.getElem?_eq_getElem hlt⟩
              obtain ⟨fb, hfb⟩ : ∃ fb, fr[k]? = some fb := ⟨fr[k], List.getElem?_eq_getElem (by omega)⟩
              have hg := HQQ.out.good k r fb hrk hfb
              obtain ⟨A8', c8', he8, -, hnc8, hc8, hr8⟩ := owns_rd HPP.out.refs
              injection he8 with e8 _ e9
              subst e8 e9
              obtain ⟨b8, o8, rfl, hb8, hcell8⟩ := hr8 (by omega)
              obtain ⟨r', hr', u0, u1⟩ := p2_at hcell8 hlt
              obtain rfl : r' = r := by have := hr'.out.symm.trans hrk; injection this
              obtain ⟨ra, rb⟩ := r'
              dsimp only at u0 u1
              obtain ⟨A9', c9', he9, -, hnc9, hc9, hr9⟩ := owns_rd HPP.out.frees
              injection he9 with e8 _ e9
              subst e8 e9
              obtain ⟨b9, o9, rfl, hb9, hcell9⟩ := hr9 (by omega)
              have u2 := hcell9 k _ (bools_at hfb)
              unfold maxLen at hc8 hc9
              have P0 := Past.cell (Nat.lt_of_lt_of_le lH hB.size) ((hB.cell (p := ⟨w7.heap.size, 0, none⟩) lH).trans y0)
              have P1 := Past.cell (Nat.lt_of_lt_of_le lH hB.size) ((hB.cell (p := ⟨w7.heap.size, 1, none⟩) lH).trans y1)
              have P2 := Past.cell (Nat.lt_of_lt_of_le hb8 hB.size) ((hB.cell (p := ⟨b8, o8 + k * 2, none⟩) hb8).trans u0)
              have P3 := Past.cell (Nat.lt_of_lt_of_le hb8 hB.size) ((hB.cell (p := ⟨b8, o8 + k * 2 + 1, none⟩) hb8).trans u1)
              have P4 := Past.cell (Nat.lt_of_lt_of_le hb9 hB.size) ((hB.cell (p := ⟨b9, o9 + k, none⟩) hb9).trans u2)
              have HC : Hid (∀ q : Past wq, Calls Tryd.prog 28 #[.agg #[.slice Ah h.g.length ch, .slice Bh h.l.length dh], .agg #[.int .i64 ra, .int .i64 rb]] q.v fun e w' => e = .returned (.bool (!fb)) ∧ Below q.v.heap.size q.v w') := Lib.hid fun q => by
                have := impl_GoodRef _ _ h ⟨ra, rb⟩ q.v (HPP.out.hp.rd.below (hB.trans (q.hb.mono hB.size)))
                rwa [hg] at this
              have HBB := Lib.hid hB
              have HFB := Lib.hid hfb
              have hkf : (k : Int) < fr.length := by omega
              have hkr : (k : Int) < rs.length := by omega
              have hcn := cntT_append (nots (fr.take k)) [!fb]
              have hsn : nots (fr.take (k + 1)) = nots (fr.take k) ++ [!fb] := by simp [nots, List.take_add_one, hfb]
              rw [← hsn] at hcn
              have hcl : cntT (nots (fr.take k)) ≤ 300 := by
                have h1 : ∀ l : List Bool, cntT l ≤ l.length := fun l => by
                  induction l with
                  | nil => simp [cntT]
                  | cons a l ih => cases a <;> simp [cntT] <;> omega
                have h2 := h1 (nots (fr.take k))
                have h3 : (nots (fr.take k)).length ≤ 300 := by simp [nots]; omega
                omega
              obtain ⟨cn, hcn0⟩ : ∃ cn, cntT (nots (fr.take k)) = cn := ⟨_, rfl⟩
              rw [hcn0] at hcn hcl ⊢
              have HCN := Lib.hid hcn
              have HC0 := Lib.hid hcn0
              clear hcell8 hr8 hcell9 hr9 hr' hrk hg u0 u1 u2 hB hfb hcn hsn hcn0 y0 y1 x0 x1
              go_upto_region 34 with (fail)
              cases fb
              case false =>
                refine wp_region_past (by kernel_rfl) (by kernel_rfl) ?_
                repeat (go_big_quiet_step (first | (go_at_call 28; exact Calls.past_of (HC.out _))))
                refine wpQuiet_nil ?_
                intro _ hw'
                obtain ⟨q, rfl⟩ := hw'
                go_upto_region 36 with (fail)
                have v2 := P4 q
                go_wp2_with fail
                exact ⟨⟨k + 1, by omega, by go_num, by rw [HCN.out]; simp [cntT], HBB.out.trans (q.hb.mono HBB.out.size)⟩, by simp [intOf] <;> omega⟩
              case true =>
                refine wp_region_past (by kernel_rfl) (by kernel_rfl) ?_
                repeat (go_big_quiet_step (first | (go_at_call 28; exact Calls.past_of (HC.out _))))
                refine wpQuiet_nil ?_
                intro _ hw'
                obtain ⟨q, rfl⟩ := hw'
                go_upto_region 36 with (fail)
                have v2 := P4 q
                go_wp2_with fail
                exact ⟨⟨k + 1, by omega, by go_num, by rw [HCN.out]; simp [cntT], HBB.out.trans (q.hb.mono HBB.out.size)⟩, by simp [intOf] <;> omega⟩
            · obtain rfl : k = rs.length := by omega
              have hT2 : fr.take rs.length = fr := by rw [← HQQ.out.len]; exact List.take_length
              rw [hT2]
              have hcq : ((Lf.length : Int) == ((cntT (nots fr) : Nat) : Int)) = true := by rw [HLN.out]; simp
              have hd : Below wr.heap.size wr wq.drew := hB.drew
              have p0 := (hd.cell (p := ⟨w7.heap.size, 0, none⟩) lH).trans y0
              have p1 := (hd.cell (p := ⟨w7.heap.size, 1, none⟩) lH).trans y1
              clear hB hT2
              go_upto_region 38 with (fail)
              have lH' := Nat.lt_of_lt_of_le lH hd.size
              have lK' := Nat.lt_of_lt_of_le lK hd.size
              have d0 := Past.cell lH' p0
              have d1 := Past.cell lH' p1
              have d2 := Past.cell lK' ((hd.cell (p := ⟨w4.heap.size, 0, none⟩) lK).trans x0)
              have d3 := Past.cell lK' ((hd.cell (p := ⟨w4.heap.size, 1, none⟩) lK).trans x1)
              have HBW : Hid (Below w.heap.size w wq.drew) := Lib.hid (by
                have h1 := HB1.out.trans (HB7.out.mono HB1.out.size)
                have h2 := h1.trans (HPP.out.bel.mono h1.size)
                exact h2.trans (hd.mono h2.size))
              refine wp_region_two 12 12 (fun w' => ∃ q : Past wq.drew, w' = q.v) (fun _ => True) (by kernel_rfl) ?_
              refine wpAnyX_pass (C := (fun w' => ∃ q : Past wq.drew, w' = q.v)) (some false) [true, false, false, true] rfl (by kernel_rfl) (fun _ _ t _ _ h => by cases t <;> exact h) ⟨fun _ => ⟨⟨wq.drew, Below.refl _ _⟩, rfl⟩, fun _ => trivial⟩ ?_
              simp only [keepOps]
              repeat (go_big_quiet_step (fail))
              refine wpQuiet_nil ?_
              refine wpAnyX_one 1 rfl (by kernel_rfl) (by kernel_rfl) ?_
              go_wp2_with fail
              refine (HL.out _ hd).mono ?_
              rintro e w9 ⟨v9, b9', rfl, o9, -, b99⟩
              obtain ⟨A9', c9', rfl, hc91, hc92⟩ := o9.slice
              have tw9 := hd.trans (b99.mono hd.size)
              clear o9
              go_wp2_with fail
              refine ⟨⟨fun _ => ⟨⟨w9, b99⟩, rfl⟩, fun _ => trivial⟩, ?_⟩
              refine wpAnyX_one 2 rfl (by kernel_rfl) (by kernel_rfl) ?_
              go_wp2_with fail
              refine ⟨⟨fun _ => ⟨⟨w9, b99⟩, rfl⟩, fun _ => trivial⟩, ?_⟩
              refine wpAnyX_pass (C := (fun w' => ∃ q : Past wq.drew, w' = q.v)) (some false) [false, false, false, false, true, true, true, false, true] rfl (by kernel_rfl) (fun _ _ t _ _ h => by cases t <;> exact h) ⟨fun _ => ⟨⟨w9, b99⟩, rfl⟩, fun _ => trivial⟩ ?_
              simp only [keepOps]
              repeat (go_big_quiet_step (fail))
              refine wpQuiet_nil ?_
              refine wpAnyX_one 7 rfl (by kernel_rfl) (by kernel_rfl) ?_
              · go_wp2_with fail
                refine (HE1.out w9 tw9).mono ?_
                rintro e w10 ⟨rfl, b10⟩
                have hB10 := b99.trans (b10.mono b99.size)
                have tw10 := hd.trans (hB10.mono hd.size)
                go_wp2_with fail
                refine ⟨⟨fun _ => ⟨⟨w10, hB10⟩, rfl⟩, fun _ => trivial⟩, ?_⟩
                refine wpAnyX_one 9 rfl (by kernel_rfl) (by kernel_rfl) ?_
                go_wp2_with fail
                refine (HE2.out w10 tw10).mono ?_
                rintro e w11 ⟨rfl, b11⟩
                have hB11 := hB10.trans (b11.mono hB10.size)
                go_wp2_with fail
                refine ⟨⟨fun _ => ⟨⟨w11, hB11⟩, rfl⟩, fun _ => trivial⟩, ?_⟩
                refine wpAnyX_one 10 rfl (by kernel_rfl) (by kernel_rfl) ?_
                go_wp2_with fail
                refine ⟨⟨fun _ => ⟨⟨w11, hB11⟩, rfl⟩, fun _ => trivial⟩, ?_⟩
                refine wpAnyX_one 11 rfl (by kernel_rfl) (by kernel_rfl) ?_
                go_wp2_with fail
                refine ⟨⟨fun _ => ⟨⟨w11, hB11⟩, rfl⟩, fun _ => trivial⟩, ?_⟩
                refine wpAnyX_one 12 rfl (by kernel_rfl) (by kernel_rfl) ?_
                go_wp2_with fail
                refine ⟨⟨fun h => absurd (show true = false from h) (by decide), fun _ => trivial⟩, ?_⟩
                refine wpAnyX_done (by kernel_rfl) ?_
                go_wp2_with fail
                go_ret
                exact ⟨rfl, HBW.out.trans (hB11.mono HBW.out.size)⟩
theorem tab_FnRefs {W : World} (h : laidMetH Tryd.prog Rows.fnRefsRow.laid W) (hS : W.ShapedOpen Tryd.prog) : ErrTy W := errTy_of h
set_option maxRecDepth 100000 in
theorem contract_FnRefs (H : Type) (enc : TypeId × Value → H) (W : World) (base : Nat) (args : Array Value) (ds gs : List (DataW H)) (before : List MemPlace)
    (hval0 : ∀ (j : Nat) t v, Tryd.f5.params[j]? = some t → args[j]? = some v → Value.okWide Tryd.prog W .any base t v)
    (hW : DataW.Whole enc Tryd.prog Tryd.f5.params.toList Rows.fnRefsSpec.vars false W args.toList ds gs before) (hL : laidMetH Tryd.prog Rows.fnRefsRow.laid W) (hS : W.ShapedOpen Tryd.prog) :
    Calls Tryd.prog 5 args W fun e W' => ∃ v, e = .returned v ∧ Rows.fnRefsSpec.post enc Tryd.prog Tryd.f5 false true false false W args v W' := by
  have hval : ∀ (j : Nat) t v, Tryd.f5.params[j]? = some t → args[j]? = some v → Value.okWide Tryd.prog W .any base t v := hval0
  have hW' := hW
  obtain ⟨p, q, hA0, hV, rfl, hfz, hnd⟩ := hW
  have hA : DataW.TrodAll enc Tryd.prog W 0 (fun _ => true) true Tryd.f5.params.toList args.toList ds p := hA0
  rw [Tryd.params5] at hA hval
  obtain ⟨v0, vs0, d0, ds0, p0, q0, hargs, rfl, rfl, h0, r0⟩ := trodAll_cons hA
  obtain ⟨rfl, rfl, rfl⟩ := trodAll_nil r0
  obtain rfl : args = #[v0] := by cases args; simp_all
  obtain ⟨rfl, rfl⟩ := trodVars_none hV
  obtain ⟨A, n, c, rfl, hb, hnc, hc⟩ := read_bytes Tryd.underlying49 Tryd.underlying5 (by kernel_rfl) (hval 0 _ v0 rfl rfl) h0
  refine (walk_Refs A n c W hb hnc hc (tab_FnRefs hL hS)).mono fun e W' ⟨he, hb⟩ => ?_
  subst he
  exact ⟨_, rfl, post_law (by kernel_rfl) rfl rfl (by kernel_rfl) Tryd.underlying4 (of_decide_eq_true (by kernel_rfl)) hW' hb⟩
noncomputable def world_FnRefs (os : Os) : World := laidWorldH os Rows.fnRefsRow.laid
theorem met_FnRefs (os : Os) : laidMetH Tryd.prog Rows.fnRefsRow.laid ((world_FnRefs os).forCall (fun _ _ => 0) ⟨#[], #[.slice none 0 0], []⟩).memory := laidMetH_of_parts (laidMet_nil _ _) (by kernel_rfl)
theorem reads_FnRefs (os : Os) {H : Type} (enc : TypeId × Value → H) : ∃ places, DataW.whole enc Tryd.prog ((world_FnRefs os).forCall (fun _ _ => 0) ⟨#[], #[.slice none 0 0], []⟩).memory Tryd.f5.params.toList Rows.fnRefsSpec.vars false (#[.slice none 0 0] : Array Value).toList 8 = some ([.nil], [], places) :=
  ⟨[], by kernel_rfl⟩
set_option maxRecDepth 100000 in
theorem lift_FnRefs (os : Os) (started : os.Started) (H : Type) (enc : TypeId × Value → H) (F : Stop.Interp) :
    ReturnsInHanded {} Tryd.checked os 5 .any ((OpenSpec.ofChange Rows.fnRefsSpec).preRow enc Tryd.prog Tryd.f5 Rows.fnRefsRow.domain false Rows.fnRefsRow.laid) (((OpenSpec.ofChange Rows.fnRefsSpec).at F).post enc Tryd.prog Tryd.f5 false true false false) := by
  obtain ⟨places, hx⟩ := reads_FnRefs os enc
  refine returnsInHanded_of_row (C := Tryd.checked) (s := OpenSpec.ofChange Rows.fnRefsSpec) (by kernel_rfl) started (by kernel_rfl) Tryd.func5
    (witness_row_atRef (enc := enc) (C := Tryd.checked) false (world_FnRefs os) #[.slice none 0 0] rfl (by kernel_rfl) (by kernel_rfl) (by kernel_rfl)
      (OpenSpec.preRow_of_cond 8 hx (by kernel_rfl) (fun k hk => by cases hk) (by kernel_rfl) (met_FnRefs os))) ?_
  intro W base args ds gs before hval hW _ _ _ hL hS _
  exact contract_FnRefs H enc W base args ds gs before hval hW hL hS
theorem FnRefs_row : Rows.FnRefsSaid :=
  OpenClaim.holds_of_cond 5 Tryd.f5 rfl rfl rfl rfl rfl rfl rfl ⟨rfl, rfl, rfl, rfl, rfl⟩ rfl rfl rfl rfl rfl (by kernel_rfl) Tryd.func5 (by kernel_rfl)
    (of_decide_eq_true (by kernel_rfl)) (by unfold Func.isWrapper; first | (rw [if_pos (by decide +kernel)]; kernel_rfl) | (rw [if_neg (by decide +kernel)]; exact ⟨rfl, rfl⟩))
    (fun os started H enc _ F => by rw [OpenClaim.pre_eq_preRow]; exact lift_FnRefs os started H enc F)
theorem plain_FnRefs (f : FuncId) (fn : Func) (hf : Tryd.pinned.checked.prog.funcNamed Rows.fnRefsRow.func = some f) (hfn : Tryd.pinned.checked.prog.funcs[f]? = some fn) :
    true = Tryd.pinned.checked.prog.looks [] ∧ ∀ (j : Nat) t, fn.params[j]? = some t → Tryd.pinned.checked.prog.wantsStandIn t = false := by
  obtain rfl : f = 5 := Option.some.inj ((show Tryd.prog.funcNamed Rows.fnRefsRow.func = some 5 by kernel_rfl).symm.trans hf) |>.symm
  obtain rfl : fn = Tryd.f5 := (Option.some.inj (Tryd.func5.symm.trans hfn)).symm
  refine ⟨by kernel_rfl, fun j t ht => ?_⟩
  rw [Tryd.params5] at ht
  obtain rfl : t = 49 := by simpa using Array.mem_of_getElem? ht
  kernel_rfl
theorem FnRefs_holds : Rows.FnRefsCardSaid :=
  Claim7.holds_tied_plain_at .later [] _ _ _ _ FnRefs_row (fun _ h => by cases h) (by kernel_rfl) (fun _ h => by cases h) fnRefs_row_tie rfl ⟨rfl, rfl⟩ (by kernel_rfl) rfl plain_FnRefs (by kernel_rfl)
#print axioms FnRefs_holds
end Go.Proofs.YtpenneklpolhgaaDoor
