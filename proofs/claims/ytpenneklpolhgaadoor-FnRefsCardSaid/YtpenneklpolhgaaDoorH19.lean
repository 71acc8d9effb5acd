/- Contract of chapter 8's model function PlayHeap (package spec). Condition: the operations can be read. -/
import Derived.Test.YtpenneklpolhgaaDoorH18
import Derived.Test.YtpenneklpolhgaaDoorH12
namespace Go.Proofs.YtpenneklpolhgaaDoor
set_option maxRecDepth 20000
set_option linter.unusedSimpArgs false
set_option linter.unusedVariables false
open Go.ChangeShapes Go.WideShapes Go.ChangeAt Go.RowKit
set_option linter.unusedVariables false
theorem splay_no {n : Int} {ops : List P2} (h : playOk n ops = false) : playH n ops = ⟨[], []⟩ ∧ playT n ops = [] := by simp [playH, playT, h]
theorem splay_yes {n : Int} {ops : List P2} (h : playOk n ops = true) : playH n ops = (playK n ops ops.length).h ∧ playT n ops = (playK n ops ops.length).t := by simp [playH, playT, h]
set_option maxHeartbeats 6400000 in
theorem spec_PlayHeap (n : Int) (v : Value) (ops : List P2) (w : World) (hv : Rd w v 2 ops.length (flc2 ops)) :
    Calls Tryd.prog 15 #[.int .i64 n, v] w (RetPl (playH n ops) (playT n ops) w) := by
  obtain ⟨A, c, rfl, -, hnc, hc, hr⟩ := hv
  unfold maxLen at hc
  obtain ⟨i, hi, hiz0, hiz1, hiz2⟩ := info_parts infoInt
  obtain ⟨ir, hir, hirz0, hirz1, hirz2⟩ := info_parts infoRef
  have hB0 := (Below.refl w.heap.size w).alloc (Nat.le_refl _) (.cells #[.slice none 0 0, .slice none 0 0] 29)
  have k0 := Bk.new w #[.slice none 0 0, .slice none 0 0] 29
  go_enter Tryd.func15, Tryd.ntmps15
  go_wp2_with fail
  refine (spec_NewHeap n _).mono ?_
  rintro e w1 ⟨gv, lv, bs, rfl, ho1, hbs1, hb1⟩
  obtain ⟨A1, c1, B1, d1, rfl, rfl⟩ := ho1.slices
  have hB1 := hB0.trans (hb1.mono hB0.size)
  have k1 := k0.below hb1 k0.lt
  have hi1 := ho1.lt
  rw [World.size_alloc] at hbs1
  obtain ⟨h0, hh0⟩ : ∃ h0, newHp n = h0 := ⟨_, rfl⟩
  rw [hh0] at ho1 ⊢
  have HH0 := Lib.hid hh0
  have l1 := k1.lt
  clear hh0 k0 hb1 hB0
  by_cases hbad : playOk n ops = false
  · have HN := Lib.hid (splay_no hbad)
    obtain ⟨y0, f0⟩ := k1.at_ 0 (x := .slice none 0 0) rfl
    obtain ⟨y1, f1⟩ := k1.at_ 1 (x := .slice none 0 0) rfl
    have kF := ((k1.set_ 0 (.slice none 0 0)).set_ 1 (.slice none 0 0)).alloc (.cells #[.slice A1 h0.g.length c1, .slice B1 h0.l.length d1] 29)
    obtain ⟨z0, -⟩ := kF.at_ 0 (x := .slice none 0 0) rfl
    obtain ⟨z1, -⟩ := kF.at_ 1 (x := .slice none 0 0) rfl
    have hBF := ((hB1.setCell (p := ⟨w.heap.size, 0, none⟩) (Nat.le_refl _) (.slice none 0 0)).setCell (p := ⟨w.heap.size, 1, none⟩) (Nat.le_refl _) (.slice none 0 0))
    have hBG := hBF.alloc hBF.size (.cells #[.slice A1 h0.g.length c1, .slice B1 h0.l.length d1] 29)
    cases hin : inB n 1 24
    · clear hbad hin kF
      go_wp2_with fail
      refine bodyPost_ret (v := .tuple #[.agg #[.slice none 0 0, .slice none 0 0], .slice none 0 0]) (by simp [results, Tryd.results15, go_sem, z0, z1]) rfl ⟨_, _, [] ++ [], _, [], rfl, by rw [HN.out.1]; exact OwnHp.mk (Own.nil _ _) (Own.nil _ _) (by simp), by rw [HN.out.2]; exact Own.nil _ _, by simp, by simp, by simp, hBG⟩
    · have h300 : 300 < ops.length := by simp [playOk, hin] at hbad; omega
      clear hbad hin kF
      go_wp2_with fail
      refine bodyPost_ret (v := .tuple #[.agg #[.slice none 0 0, .slice none 0 0], .slice none 0 0]) (by simp [results, Tryd.results15, go_sem, z0, z1]) rfl ⟨_, _, [] ++ [], _, [], rfl, by rw [HN.out.1]; exact OwnHp.mk (Own.nil _ _) (Own.nil _ _) (by simp), by rw [HN.out.2]; exact Own.nil _ _, by simp, by simp, by simp, hBG⟩
  · have hok : playOk n ops = true := by simpa using hbad
    have HN := Lib.hid (splay_yes hok)
    simp only [playOk, Bool.and_eq_true, decide_eq_true_eq] at hok
    obtain ⟨hin, h300⟩ := hok
    rw [hin]
    clear hbad hin
    have r0 := World.ownsRow_lit (base := w1.heap.size + 1) (e := 33) (size := 2) (w1.alloc (.cells #[.slice A1 h0.g.length c1, .slice B1 h0.l.length d1] 29)) #[] 0 (by simp) (by simp [maxLen]) rfl
    have t0 := World.ownsRow_lit (base := w1.heap.size + 1) (e := 3) (size := 1) ((w1.alloc (.cells #[.slice A1 h0.g.length c1, .slice B1 h0.l.length d1] 29)).alloc (.cells #[] 33)) #[] 0 (by simp) (by simp [maxLen]) rfl
    have hbA := ((Below.refl w1.heap.size w1).alloc (Nat.le_refl _) (.cells #[.slice A1 h0.g.length c1, .slice B1 h0.l.length d1] 29)).alloc (by simp) (.cells #[] 33)
    have hbB := hbA.alloc hbA.size (.cells #[] 3)
    have hP0 : PlS w (((w1.alloc (.cells #[.slice A1 h0.g.length c1, .slice B1 h0.l.length d1] 29)).alloc (.cells #[] 33)).alloc (.cells #[] 3)) w1.heap.size (w1.heap.size + 1) (.slice A1 h0.g.length c1) (.slice B1 h0.l.length d1) (.slice (some ⟨w1.heap.size + 1, 0, none⟩) 0 0) (.slice (some ⟨w1.heap.size + 1 + 1, 0, none⟩) 0 0) (playK n ops 0).h (playK n ops 0).rs (playK n ops 0).t bs := by
      rw [playK_zero, HH0.out]
      refine ⟨((Bk.new w1 #[.slice A1 h0.g.length c1, .slice B1 h0.l.length d1] 29).alloc _).alloc _, ho1.below hbB, ?_, ?_, ?_, ?_, fun hm => by have := hi1 _ hm; omega, ⟨l1, Nat.lt_succ_self _, by simp⟩, k1.below hbB k1.lt, fun b hm => by have := hbs1 b hm; omega, hB1.trans (hbB.mono hB1.size)⟩
      · simpa [flc2, fl2, ints] using r0.alloc (.cells #[] 3)
      · simpa [ints] using t0
      · intro q hq hm
        simp [Value.ownBlock] at hq
        have := hi1 q hm
        omega
      · intro q hq hm
        simp [Value.ownBlock] at hq
        have := hi1 q hm
        omega
    clear r0 t0 hbA hbB ho1 hi1 hbs1 k1 hB1
    go_wp2_with fail
    go_loopw [8, 9, 10] (fun v8 v9 i wr => ∃ (k : Nat) (gv lv v8' v9' : Value) (bs : List Nat), k ≤ ops.length ∧ (i = .int .i64 k ∧ v8 = v8' ∧ v9 = v9') ∧ PlS w wr w1.heap.size (w1.heap.size + 1) gv lv v8' v9' (playK n ops k).h (playK n ops k).rs (playK n ops k).t bs) (fun _ _ i _ => ops.length - (intOf i).toNat)
    case atStart => exact ⟨0, _, _, _, _, bs, Nat.zero_le _, ⟨rfl, rfl, rfl⟩, hP0⟩
    case round =>
      obtain ⟨k, gv, lv, v8, v9, bs2, hk, ⟨rfl, rfl, rfl⟩, hP⟩ := hrel
      clear hP0
      have hlk := playK_len n ops k hk
      obtain ⟨⟨h, rs, t⟩, hs⟩ : ∃ s, playK n ops k = s := ⟨_, rfl⟩
      rw [hs] at hP hlk
      dsimp only at hP hlk
      obtain ⟨A2, c2, B2, d2, rfl, rfl, -⟩ := hP.hp.rd.slices
      obtain ⟨A8, c8, rfl⟩ := owns_form hP.refs
      obtain ⟨A9, c9, rfl⟩ := owns_form hP.told
      have hl := hP.lt
      have HPP := Lib.hid hP
      obtain ⟨y0, f0⟩ := hP.box.at_ 0 (x := .slice A2 h.g.length c2) rfl
      obtain ⟨y1, f1⟩ := hP.box.at_ 1 (x := .slice B2 h.l.length d2) rfl
      have lH := hP.box.lt
      have HS := Lib.hid hs
      have HTL := Lib.hid hlk.2.1
      by_cases hlt : k < ops.length
      · obtain ⟨b, o, rfl, hb, hcell⟩ := hr (by omega)
        obtain ⟨⟨xa, xb⟩, hxk, x0, x1⟩ := p2_at (w := wr) (fun j u hu => (hP.bel.cell (p := ⟨b, o + j, none⟩) hb).trans (hcell j u hu)) hlt
        dsimp only at x0 x1
        have hKS := playK_succ (n := n) hxk.out
        rw [hs] at hKS
        have HKS := Lib.hid hKS
        have hsz : h.g.length ≤ 16777215 ∧ h.l.length ≤ 16777215 := ⟨by omega, by omega⟩
        have hrl : rs.length ≤ 300 := by omega
        have htl : t.length ≤ k ∧ k ≤ t.length := by omega
        clear hcell hr hs hKS hlk
        by_cases h0 : xa = 0
        · have HA := Lib.hid (spec_AllocObj _ _ h wr HPP.out.hp.rd hsz)
          subst h0
          clear hP
          go_wp2_with fail
          refine HA.out.mono ?_
          rintro e w2 ⟨gv2, lv2, bs3, rfl, ho2, hbs3, hb2⟩
          obtain ⟨A3, c3, B3, d3, rfl, rfl⟩ := ho2.slices
          have kb2 := HPP.out.box.below hb2 lH
          obtain ⟨z0, e0⟩ := kb2.at_ 0 (x := .slice A2 h.g.length c2) rfl
          obtain ⟨z1, e1⟩ := kb2.at_ 1 (x := .slice B2 h.l.length d2) rfl
          have lH2 := kb2.lt
          have hs12 := hb2.size
          have PH := HPP.out.heap hb2 ho2 hbs3
          obtain ⟨h', hh'⟩ : ∃ h', allocH h = h' := ⟨_, rfl⟩
          obtain ⟨⟨ra, rb⟩, hrr⟩ : ∃ r, allocR h = r := ⟨_, rfl⟩
          rw [hh'] at PH ⊢
          rw [hrr]
          have HH' := Lib.hid hh'
          have HRR := Lib.hid hrr
          dsimp only
          clear hh' hrr kb2 ho2 hbs3 hb2 HA y0 y1 f0 f1
          cases hok : allocOk h
          · have hst := stepS_full (s := ⟨h, rs, t⟩) (op := ⟨0, xb⟩) rfl hok
            have PS := PH.below (((Below.refl _ _).alloc (Nat.le_refl _) (.cells #[.slice A3 h'.g.length c3, .slice B3 h'.l.length d3] 29)).alloc (by simp) (.cells #[.int .i64 ra, .int .i64 rb] 33))
            have hks : playK n ops (k + 1) = ⟨h', rs, t ++ [-1]⟩ := by rw [HKS.out, hst, ← HH'.out]
            clear hst hok PH
            go_upto_region 26 with (fail)
            obtain ⟨WZ, hWZ⟩ : ∃ WZ, WZ = (((w2.setCell ⟨w1.heap.size, 0, none⟩ (.slice A3 h'.g.length c3)).setCell ⟨w1.heap.size, 1, none⟩ (.slice B3 h'.l.length d3)).alloc (.cells #[.slice A3 h'.g.length c3, .slice B3 h'.l.length d3] 29)).alloc (.cells #[.int .i64 ra, .int .i64 rb] 33) := ⟨_, rfl⟩
            rw [← hWZ] at PS ⊢
            have PT := PS
            have HPT := Lib.hid PT
            have HKS9 := Lib.hid (hks)
            have hbT := PT.lt.2.2
            have hTo := PT.told
            have hbW : w1.heap.size + 1 ≤ (WZ).heap.size := hbT
            clear PT hbT PS hWZ z0 z1 e0 e1 lH2
            go_wp2_with (at_builtin; refine wpList_append_lie _ rfl _ _ 22 rfl (w1.heap.size + 1) 3 i (.int .i64 0) 1 8 Tryd.underlying22 hi hiz0 hiz1 hiz2 rfl (by decide) _ _ _ rfl (hTo.alloc (.cells #[.int .i64 (-1)] 3)) ⟨(WZ).heap.size, 0, none⟩ 1 1 [.int .i64 (-1)] rfl rfl (new_cells _ _ _) (by simp [Value.oneCell']) (by unfold maxLen; omega) (by omega) (by rw [World.size_alloc]; omega) ?_)
            intro v99 w99 hO99 hg99 hl99
            have hN99 := (HPT.out.below ((Below.refl _ _).alloc (Nat.le_refl _) (.cells #[.int .i64 (-1)] 3))).tell (x := (-1)) hg99 (by rw [List.length_append]; simpa [ints] using hO99) (by rw [World.size_alloc]; exact hl99)
            obtain ⟨A99, c99, rfl⟩ := owns_form hO99
            have HN99 := Lib.hid hN99
            clear hO99 hg99 hl99 hN99 hTo
            go_wp2_with fail
            exact ⟨⟨k + 1, _, _, _, _, bs3, by omega, ⟨by go_num, rfl, rfl⟩, by rw [HKS9.out]; exact HN99.out⟩, by simp [intOf]; omega⟩
          · have hst := stepS_alloc (s := ⟨h, rs, t⟩) (op := ⟨0, xb⟩) rfl hok
            have hks : playK n ops (k + 1) = ⟨h', rs ++ [⟨ra, rb⟩], t ++ [ra]⟩ := by rw [HKS.out, hst]; dsimp only; rw [HH'.out, HRR.out]
            have PV := PH.below (((Below.refl _ _).alloc (Nat.le_refl _) (.cells #[.slice A3 h'.g.length c3, .slice B3 h'.l.length d3] 29)).alloc (by simp) (.cells #[.int .i64 ra, .int .i64 rb] 33))
            clear hst hok PH
            go_upto_region 15 with (fail)
            have q4 := Bk.new (((w2.setCell ⟨w1.heap.size, 0, none⟩ (.slice A3 h'.g.length c3)).setCell ⟨w1.heap.size, 1, none⟩ (.slice B3 h'.l.length d3)).alloc (.cells #[.slice A3 h'.g.length c3, .slice B3 h'.l.length d3] 29)) #[.int .i64 ra, .int .i64 rb] 33
            rw [show (((w2.setCell ⟨w1.heap.size, 0, none⟩ (.slice A3 h'.g.length c3)).setCell ⟨w1.heap.size, 1, none⟩ (.slice B3 h'.l.length d3)).alloc (.cells #[.slice A3 h'.g.length c3, .slice B3 h'.l.length d3] 29)).heap.size = w2.heap.size + 1 by simp [World.setCell]] at q4
            obtain ⟨WV, hWV⟩ : ∃ WV, WV = (((w2.setCell ⟨w1.heap.size, 0, none⟩ (.slice A3 h'.g.length c3)).setCell ⟨w1.heap.size, 1, none⟩ (.slice B3 h'.l.length d3)).alloc (.cells #[.slice A3 h'.g.length c3, .slice B3 h'.l.length d3] 29)).alloc (.cells #[.int .i64 ra, .int .i64 rb] 33) := ⟨_, rfl⟩
            rw [← hWV] at PV q4 ⊢
            obtain ⟨u0, -⟩ := q4.at_ 0 (x := .int .i64 ra) rfl
            obtain ⟨u1, -⟩ := q4.at_ 1 (x := .int .i64 rb) rfl
            have hRo := PV.refs
            have hbV : w1.heap.size + 1 ≤ WV.heap.size := PV.lt.2.2
            have HPV := Lib.hid PV
            have HQ4 := Lib.hid q4
            have hnr : ∀ q, (Value.slice A8 rs.length c8).ownBlock = some q → q < w2.heap.size + 1 := fun q hq => by
              have h1 := (HPP.out.refs.lt q hq).2
              have h2 : wr.heap.size ≤ w2.heap.size := hs12
              omega
            clear hWV PV q4 z0 z1 e0 e1 lH2
            go_wp2_with (at_builtin; refine wpList_append_lie _ rfl _ _ 55 rfl (w1.heap.size + 1) 33 ir (.agg #[.int .i64 0, .int .i64 0]) 2 16 Tryd.underlying55 hir hirz0 hirz1 hirz2 rfl (by decide) _ _ _ rfl (hRo.alloc (.cells #[.int .i64 ra, .int .i64 rb] 33)) ⟨WV.heap.size, 0, none⟩ 1 1 [.int .i64 ra, .int .i64 rb] rfl rfl (new_cells _ _ _) (by simp [Value.oneCell']) (by unfold maxLen; omega) (by omega) (by rw [World.size_alloc]; omega) ?_)
            intro v88 w88 hO88 hg88 hl88
            have PS := (HPV.out.below ((Below.refl _ _).alloc (Nat.le_refl _) (.cells #[.int .i64 ra, .int .i64 rb] 33))).ref (r := ⟨ra, rb⟩) hg88 (owns_snoc2 (x := ⟨ra, rb⟩) hO88) (by rw [World.size_alloc]; exact hl88)
            have q5 := (HQ4.out.alloc (.cells #[.int .i64 ra, .int .i64 rb] 33)).grown hg88 (fun q hq e => by have := hnr q hq; omega)
            obtain ⟨u0', -⟩ := q5.at_ 0 (x := .int .i64 ra) rfl
            obtain ⟨A88, c88, rfl⟩ := owns_form hO88
            clear hRo hO88 hg88 hl88 u0 u1 hbV hnr
            go_upto_region 26 with (fail)
            have PT := PS
            have HPT := Lib.hid PT
            have HKS9 := Lib.hid (hks)
            have hbT := PT.lt.2.2
            have hTo := PT.told
            have hbW : w1.heap.size + 1 ≤ (w88).heap.size := hbT
            clear PT hbT PS u0' q5
            go_wp2_with (at_builtin; refine wpList_append_lie _ rfl _ _ 22 rfl (w1.heap.size + 1) 3 i (.int .i64 0) 1 8 Tryd.underlying22 hi hiz0 hiz1 hiz2 rfl (by decide) _ _ _ rfl (hTo.alloc (.cells #[.int .i64 ra] 3)) ⟨(w88).heap.size, 0, none⟩ 1 1 [.int .i64 ra] rfl rfl (new_cells _ _ _) (by simp [Value.oneCell']) (by unfold maxLen; omega) (by omega) (by rw [World.size_alloc]; omega) ?_)
            intro v99 w99 hO99 hg99 hl99
            have hN99 := (HPT.out.below ((Below.refl _ _).alloc (Nat.le_refl _) (.cells #[.int .i64 ra] 3))).tell (x := ra) hg99 (by rw [List.length_append]; simpa [ints] using hO99) (by rw [World.size_alloc]; exact hl99)
            obtain ⟨A99, c99, rfl⟩ := owns_form hO99
            have HN99 := Lib.hid hN99
            clear hO99 hg99 hl99 hN99 hTo
            go_wp2_with fail
            exact ⟨⟨k + 1, _, _, _, _, bs3, by omega, ⟨by go_num, rfl, rfl⟩, by rw [HKS9.out]; exact HN99.out⟩, by simp [intOf]; omega⟩
        · have h0' : (xa == 0) = false := by simp [h0]
          have HIN := fun W => l01In xb 0 ((rs.length : Int) - 1) W
          cases hi : inB xb 0 ((rs.length : Int) - 1)
          · have hst := stepS_out (s := ⟨h, rs, t⟩) (op := ⟨xa, xb⟩) h0 hi
            have hks : playK n ops (k + 1) = ⟨h, rs, t ++ [1]⟩ := by rw [HKS.out, hst]
            rw [hi] at HIN
            have HI := Lib.hid HIN
            clear hst hi HIN h0
            go_upto_region 26 with (go_at_call 35; refine (HI.out _).mono ?_; rintro e w' ⟨rfl, rfl⟩)
            have PT := hP
            have HPT := Lib.hid PT
            have HKS9 := Lib.hid (hks)
            have hbT := PT.lt.2.2
            have hTo := PT.told
            have hbW : w1.heap.size + 1 ≤ (wr).heap.size := hbT
            clear PT hbT hP y0 y1 f0 f1 x0 x1
            go_wp2_with (at_builtin; refine wpList_append_lie _ rfl _ _ 22 rfl (w1.heap.size + 1) 3 i (.int .i64 0) 1 8 Tryd.underlying22 hi hiz0 hiz1 hiz2 rfl (by decide) _ _ _ rfl (hTo.alloc (.cells #[.int .i64 1] 3)) ⟨(wr).heap.size, 0, none⟩ 1 1 [.int .i64 1] rfl rfl (new_cells _ _ _) (by simp [Value.oneCell']) (by unfold maxLen; omega) (by omega) (by rw [World.size_alloc]; omega) ?_)
            intro v99 w99 hO99 hg99 hl99
            have hN99 := (HPT.out.below ((Below.refl _ _).alloc (Nat.le_refl _) (.cells #[.int .i64 1] 3))).tell (x := 1) hg99 (by rw [List.length_append]; simpa [ints] using hO99) (by rw [World.size_alloc]; exact hl99)
            obtain ⟨A99, c99, rfl⟩ := owns_form hO99
            have HN99 := Lib.hid hN99
            clear hO99 hg99 hl99 hN99 hTo
            go_wp2_with fail
            exact ⟨⟨k + 1, _, _, _, _, bs2, by omega, ⟨by go_num, rfl, rfl⟩, by rw [HKS9.out]; exact HN99.out⟩, by simp [intOf]; omega⟩
          · have hib := inB_true hi
            obtain ⟨j, hj⟩ : ∃ j : Nat, xb = j := ⟨xb.toNat, by omega⟩
            subst hj
            have hjl : j < rs.length := by omega
            obtain ⟨r, hrj⟩ : ∃ r, rs[j]? = some r := ⟨rs[j], List.getElem?_eq_getElem hjl⟩
            rw [hi] at HIN
            have HI := Lib.hid HIN
            obtain ⟨A8', c8', he8, -, hnc8, hc8, hr8⟩ := owns_rd hP.refs
            injection he8 with e8 _ e9
            subst e8 e9
            obtain ⟨b8, o8, rfl, hb8, hcell8⟩ := hr8 (by omega)
            obtain ⟨r', hr', u0, u1⟩ := p2_at hcell8 hjl
            obtain rfl : r' = r := by have := hr'.out.symm.trans hrj; injection this
            obtain ⟨ra, rb⟩ := r'
            dsimp only at u0 u1
            unfold maxLen at hc8
            have hbw : b < wr.heap.size := Nat.lt_of_lt_of_le hb hP.bel.size
            clear hi hib HIN hr' hcell8 hr8
            by_cases h1 : xa = 1
            · subst h1
              have hst := stepS_free (s := ⟨h, rs, t⟩) (op := ⟨1, (j : Int)⟩) rfl rfl hrj
              obtain ⟨h', hh'⟩ : ∃ h', freeH h ⟨ra, rb⟩ = h' := ⟨_, rfl⟩
              obtain ⟨code, hcode⟩ : ∃ code, freeC h ⟨ra, rb⟩ = code := ⟨_, rfl⟩
              have hks : playK n ops (k + 1) = ⟨h', rs, t ++ [code]⟩ := by rw [HKS.out, hst]; dsimp only; rw [hh', hcode]
              have hF := fun (W : World) (hbb : Below wr.heap.size wr W) => spec_FreeObj _ _ h ⟨ra, rb⟩ W (HPP.out.hp.rd.below hbb) hsz
              rw [hh', hcode] at hF
              have HF := Lib.hid hF
              have KN : Hid (Bk ((wr.alloc (.cells #[.slice none 0 0, .slice none 0 0] 29)).drew) wr.heap.size #[.slice none 0 0, .slice none 0 0] 29) := Lib.hid (Bk.new wr #[.slice none 0 0, .slice none 0 0] 29)
              have HN2 : Hid (Below wr.heap.size wr (wr.alloc (.cells #[.slice none 0 0, .slice none 0 0] 29)).drew) := Lib.hid ((Below.refl _ wr).alloc (Nat.le_refl _) _).drew
              have HND : Hid (Below wr.heap.size wr wr.drew) := Lib.hid (Below.refl _ wr).drew
              have HKSS := Lib.hid hks
              clear hF hh' hcode hst hrj hks hP
              go_upto_region 19 with (go_at_call 35; refine (HI.out _).mono ?_; rintro e w' ⟨rfl, rfl⟩)
              go_cut [15, 16] (fun p5 p6 wz => ∃ (g : Nat) (A3 : Option Addr) (c3 : Nat) (B3 : Option Addr) (d3 : Nat) (bs3 : List Nat), p5 = .pointer (some ⟨g, 0, none⟩) ∧ p6 = .int .i64 code ∧ Bk wz g #[.slice A3 h'.g.length c3, .slice B3 h'.l.length d3] 29 ∧ OwnHp wz (.slice A3 h'.g.length c3) (.slice B3 h'.l.length d3) h' bs3 ∧ (∀ b ∈ bs3, wr.heap.size ≤ b) ∧ wr.heap.size ≤ g ∧ Below wr.heap.size wr wz)
              case first =>
                go_region_law (first
                  | (refine step_call rfl 7 Tryd.func7 (by kernel_rfl) (by kernel_rfl) _ _ rfl #[.agg #[.slice A2 h.g.length c2, .slice B2 h.l.length d2], .agg #[.int .i64 ra, .int .i64 rb]] (by simp [Act.eval, Act.put]) (HF.out wr.drew HND.out) ?_; rintro e w2 ⟨gv1, lv1, bs3, rfl, ho3, hbs3, hb3⟩; refine ⟨_, rfl, ?_⟩; obtain ⟨A3, c3, B3, d3, rfl, rfl⟩ := ho3.slices; have t2 : Below wr.heap.size wr w2 := HND.out.trans hb3)
                  | (refine step_call rfl 7 Tryd.func7 (by kernel_rfl) (by kernel_rfl) _ _ rfl #[.agg #[.slice A2 h.g.length c2, .slice B2 h.l.length d2], .agg #[.int .i64 ra, .int .i64 rb]] (by simp [Act.eval, Act.put]) (HF.out (wr.alloc (.cells #[.slice none 0 0, .slice none 0 0] 29)).drew HN2.out) ?_; rintro e w2 ⟨gv1, lv1, bs3, rfl, ho3, hbs3, hb3⟩; refine ⟨_, rfl, ?_⟩; obtain ⟨A3, c3, B3, d3, rfl, rfl⟩ := ho3.slices; have t2 : Below wr.heap.size wr w2 := HN2.out.trans (hb3.mono HN2.out.size); have qz := KN.out.below hb3 KN.out.lt; obtain ⟨z0, e0⟩ := qz.at_ 0 (x := .slice none 0 0) rfl; obtain ⟨z1, e1⟩ := qz.at_ 1 (x := .slice none 0 0) rfl))
                all_goals go_wp2_with fail
                all_goals go_meet
                all_goals first
                  | exact ⟨w2.heap.size, A3, c3, B3, d3, bs3, rfl, rfl, Bk.new _ _ _, ho3.below ((Below.refl _ _).alloc (Nat.le_refl _) _), fun b hb => hbs3 b hb, t2.size, t2.alloc t2.size _⟩
                  | exact ⟨wr.heap.size, A3, c3, B3, d3, bs3, rfl, rfl, by simpa using (qz.set_ 0 (.slice A3 h'.g.length c3)).set_ 1 (.slice B3 h'.l.length d3), (ho3.far (fun b hb e => by have := hbs3 b hb; rw [e] at this; have := Nat.lt_of_lt_of_le KN.out.lt this; omega)).far (fun b hb e => by have := hbs3 b hb; rw [e] at this; have := Nat.lt_of_lt_of_le KN.out.lt this; omega), fun b hb => Nat.le_trans HN2.out.size (hbs3 b hb), Nat.le_refl _, (t2.setCell (Nat.le_refl _) _).setCell (Nat.le_refl _) _⟩
              case rest =>
                obtain ⟨g, A3, c3, B3, d3, bs3, rfl, rfl, hk5, ho5, hbs5, hg5, hbz⟩ := hcut
                rename World => wz
                have kbz := HPP.out.box.below hbz lH
                obtain ⟨z0, e0⟩ := kbz.at_ 0 (x := .slice A2 h.g.length c2) rfl
                obtain ⟨z1, e1⟩ := kbz.at_ 1 (x := .slice B2 h.l.length d2) rfl
                obtain ⟨z2, -⟩ := hk5.at_ 0 (x := .slice A3 h'.g.length c3) rfl
                obtain ⟨z3, -⟩ := hk5.at_ 1 (x := .slice B3 h'.l.length d3) rfl
                have ng : g ≠ w1.heap.size := by omega
                have PS := HPP.out.heap hbz ho5 hbs5
                clear kbz hk5 ho5 hbz KN HN2 HND HF y0 y1 f0 f1 x0 x1 u0 u1
                go_upto_region 26 with (fail)
                obtain ⟨WZ, hWZ⟩ : ∃ WZ, WZ = (wz.setCell ⟨w1.heap.size, 0, none⟩ (.slice A3 h'.g.length c3)).setCell ⟨w1.heap.size, 1, none⟩ (.slice B3 h'.l.length d3) := ⟨_, rfl⟩
                rw [← hWZ] at PS ⊢
                have PT := PS
                have HPT := Lib.hid PT
                have HKS9 := Lib.hid (HKSS.out)
                have hbT := PT.lt.2.2
                have hTo := PT.told
                have hbW : w1.heap.size + 1 ≤ (WZ).heap.size := hbT
                clear PT hbT PS hWZ z0 z1 z2 z3 e0 e1 ng
                go_wp2_with (at_builtin; refine wpList_append_lie _ rfl _ _ 22 rfl (w1.heap.size + 1) 3 i (.int .i64 0) 1 8 Tryd.underlying22 hi hiz0 hiz1 hiz2 rfl (by decide) _ _ _ rfl (hTo.alloc (.cells #[.int .i64 code] 3)) ⟨(WZ).heap.size, 0, none⟩ 1 1 [.int .i64 code] rfl rfl (new_cells _ _ _) (by simp [Value.oneCell']) (by unfold maxLen; omega) (by omega) (by rw [World.size_alloc]; omega) ?_)
                intro v99 w99 hO99 hg99 hl99
                have hN99 := (HPT.out.below ((Below.refl _ _).alloc (Nat.le_refl _) (.cells #[.int .i64 code] 3))).tell (x := code) hg99 (by rw [List.length_append]; simpa [ints] using hO99) (by rw [World.size_alloc]; exact hl99)
                obtain ⟨A99, c99, rfl⟩ := owns_form hO99
                have HN99 := Lib.hid hN99
                clear hO99 hg99 hl99 hN99 hTo
                go_wp2_with fail
                exact ⟨⟨k + 1, _, _, _, _, bs3, by omega, ⟨by go_num, rfl, rfl⟩, by rw [HKS9.out]; exact HN99.out⟩, by simp [intOf]; omega⟩
            · have h1' : (xa == 1) = false := by simp [h1]
              by_cases h2 : xa = 2
              · subst h2
                have hst := stepS_check (s := ⟨h, rs, t⟩) (op := ⟨2, (j : Int)⟩) rfl rfl hrj
                have HG := Lib.hid (spec_GoodRef _ _ h ⟨ra, rb⟩ wr.drew (HPP.out.hp.rd.below (Below.refl _ _).drew))
                have HD : Hid (Below wr.heap.size wr wr.drew) := Lib.hid (Below.refl _ wr).drew
                clear hrj hP
                go_upto_region 24 with (go_at_call 35; refine (HI.out _).mono ?_; rintro e w' ⟨rfl, rfl⟩)
                cases hg : goodB h ⟨ra, rb⟩
                · have hks : playK n ops (k + 1) = ⟨h, rs, t ++ [2]⟩ := by rw [HKS.out, hst, hg]; rfl
                  rw [hg] at HG
                  have HKSS := Lib.hid hks
                  clear hst hg hks
                  go_region_law (refine step_call rfl 36 Tryd.func36 (by kernel_rfl) (by kernel_rfl) _ _ rfl #[.agg #[.slice A2 h.g.length c2, .slice B2 h.l.length d2], .agg #[.int .i64 ra, .int .i64 rb]] (by simp [Act.eval, Act.put]) HG.out ?_; rintro e w3 ⟨rfl, hb3⟩; refine ⟨_, rfl, ?_⟩)
                  all_goals
                    have PS := HPP.out.below (HD.out.trans hb3)
                    go_upto_region 26 with (fail)
                    have PT := PS
                    have HPT := Lib.hid PT
                    have HKS9 := Lib.hid (HKSS.out)
                    have hbT := PT.lt.2.2
                    have hTo := PT.told
                    have hbW : w1.heap.size + 1 ≤ (w3).heap.size := hbT
                    clear PT hbT PS y0 y1 f0 f1 x0 x1 u0 u1
                    go_wp2_with (at_builtin; refine wpList_append_lie _ rfl _ _ 22 rfl (w1.heap.size + 1) 3 i (.int .i64 0) 1 8 Tryd.underlying22 hi hiz0 hiz1 hiz2 rfl (by decide) _ _ _ rfl (hTo.alloc (.cells #[.int .i64 2] 3)) ⟨(w3).heap.size, 0, none⟩ 1 1 [.int .i64 2] rfl rfl (new_cells _ _ _) (by simp [Value.oneCell']) (by unfold maxLen; omega) (by omega) (by rw [World.size_alloc]; omega) ?_)
                    intro v99 w99 hO99 hg99 hl99
                    have hN99 := (HPT.out.below ((Below.refl _ _).alloc (Nat.le_refl _) (.cells #[.int .i64 2] 3))).tell (x := 2) hg99 (by rw [List.length_append]; simpa [ints] using hO99) (by rw [World.size_alloc]; exact hl99)
                    obtain ⟨A99, c99, rfl⟩ := owns_form hO99
                    have HN99 := Lib.hid hN99
                    clear hO99 hg99 hl99 hN99 hTo
                    go_wp2_with fail
                    exact ⟨⟨k + 1, _, _, _, _, bs2, by omega, ⟨by go_num, rfl, rfl⟩, by rw [HKS9.out]; exact HN99.out⟩, by simp [intOf]; omega⟩
                · have hks : playK n ops (k + 1) = ⟨h, rs, t ++ [0]⟩ := by rw [HKS.out, hst, hg]; rfl
                  rw [hg] at HG
                  have HKSS := Lib.hid hks
                  clear hst hg hks
                  go_region_law (refine step_call rfl 36 Tryd.func36 (by kernel_rfl) (by kernel_rfl) _ _ rfl #[.agg #[.slice A2 h.g.length c2, .slice B2 h.l.length d2], .agg #[.int .i64 ra, .int .i64 rb]] (by simp [Act.eval, Act.put]) HG.out ?_; rintro e w3 ⟨rfl, hb3⟩; refine ⟨_, rfl, ?_⟩)
                  all_goals
                    have PS := HPP.out.below (HD.out.trans hb3)
                    go_upto_region 26 with (fail)
                    have PT := PS
                    have HPT := Lib.hid PT
                    have HKS9 := Lib.hid (HKSS.out)
                    have hbT := PT.lt.2.2
                    have hTo := PT.told
                    have hbW : w1.heap.size + 1 ≤ (w3).heap.size := hbT
                    clear PT hbT PS y0 y1 f0 f1 x0 x1 u0 u1
                    go_wp2_with (at_builtin; refine wpList_append_lie _ rfl _ _ 22 rfl (w1.heap.size + 1) 3 i (.int .i64 0) 1 8 Tryd.underlying22 hi hiz0 hiz1 hiz2 rfl (by decide) _ _ _ rfl (hTo.alloc (.cells #[.int .i64 0] 3)) ⟨(w3).heap.size, 0, none⟩ 1 1 [.int .i64 0] rfl rfl (new_cells _ _ _) (by simp [Value.oneCell']) (by unfold maxLen; omega) (by omega) (by rw [World.size_alloc]; omega) ?_)
                    intro v99 w99 hO99 hg99 hl99
                    have hN99 := (HPT.out.below ((Below.refl _ _).alloc (Nat.le_refl _) (.cells #[.int .i64 0] 3))).tell (x := 0) hg99 (by rw [List.length_append]; simpa [ints] using hO99) (by rw [World.size_alloc]; exact hl99)
                    obtain ⟨A99, c99, rfl⟩ := owns_form hO99
                    have HN99 := Lib.hid hN99
                    clear hO99 hg99 hl99 hN99 hTo
                    go_wp2_with fail
                    exact ⟨⟨k + 1, _, _, _, _, bs2, by omega, ⟨by go_num, rfl, rfl⟩, by rw [HKS9.out]; exact HN99.out⟩, by simp [intOf]; omega⟩
              · have hst := stepS_other (s := ⟨h, rs, t⟩) (op := ⟨xa, (j : Int)⟩) h0 h1 h2
                have hks : playK n ops (k + 1) = ⟨h, rs, t ++ [1]⟩ := by rw [HKS.out, hst]
                have h2' : (xa == 2) = false := by simp [h2]
                clear hst h0 h1 h2 hrj
                go_upto_region 26 with (go_at_call 35; refine (HI.out _).mono ?_; rintro e w' ⟨rfl, rfl⟩)
                have PT := hP
                have HPT := Lib.hid PT
                have HKS9 := Lib.hid (hks)
                have hbT := PT.lt.2.2
                have hTo := PT.told
                have hbW : w1.heap.size + 1 ≤ (wr).heap.size := hbT
                clear PT hbT hP y0 y1 f0 f1 x0 x1
                go_wp2_with (at_builtin; refine wpList_append_lie _ rfl _ _ 22 rfl (w1.heap.size + 1) 3 i (.int .i64 0) 1 8 Tryd.underlying22 hi hiz0 hiz1 hiz2 rfl (by decide) _ _ _ rfl (hTo.alloc (.cells #[.int .i64 1] 3)) ⟨(wr).heap.size, 0, none⟩ 1 1 [.int .i64 1] rfl rfl (new_cells _ _ _) (by simp [Value.oneCell']) (by unfold maxLen; omega) (by omega) (by rw [World.size_alloc]; omega) ?_)
                intro v99 w99 hO99 hg99 hl99
                have hN99 := (HPT.out.below ((Below.refl _ _).alloc (Nat.le_refl _) (.cells #[.int .i64 1] 3))).tell (x := 1) hg99 (by rw [List.length_append]; simpa [ints] using hO99) (by rw [World.size_alloc]; exact hl99)
                obtain ⟨A99, c99, rfl⟩ := owns_form hO99
                have HN99 := Lib.hid hN99
                clear hO99 hg99 hl99 hN99 hTo
                go_wp2_with fail
                exact ⟨⟨k + 1, _, _, _, _, bs2, by omega, ⟨by go_num, rfl, rfl⟩, by rw [HKS9.out]; exact HN99.out⟩, by simp [intOf]; omega⟩
      · obtain rfl : k = ops.length := by omega
        obtain ⟨u0, g0⟩ := hP.res.at_ 0 (x := .slice none 0 0) rfl
        obtain ⟨u1, g1⟩ := hP.res.at_ 1 (x := .slice none 0 0) rfl
        have kF := (hP.res.set_ 0 (.slice A2 h.g.length c2)).set_ 1 (.slice B2 h.l.length d2)
        obtain ⟨z0, -⟩ := kF.at_ 0 (x := .slice A2 h.g.length c2) rfl
        obtain ⟨z1, -⟩ := kF.at_ 1 (x := .slice B2 h.l.length d2) rfl
        have oF := (hP.hp.far (b := w.heap.size) (k := 0) (u := .slice A2 h.g.length c2) (fun b hb => by have := hP.lo b hb; omega)).far (b := w.heap.size) (k := 1) (u := .slice B2 h.l.length d2) (fun b hb => by have := hP.lo b hb; omega)
        obtain ⟨bt, h1, h2⟩ := Own.of_owns hP.told
        have tF := (h1.far (b := w.heap.size) (i := 0) (u := .slice A2 h.g.length c2) (fun b hb => by have := h2 b hb; omega)).far (b := w.heap.size) (i := 1) (u := .slice B2 h.l.length d2) (fun b hb => by have := h2 b hb; omega)
        have hdis : ∀ b ∈ bs2, b ∉ bt := by
          obtain ⟨A', c', he, -, -, -, ⟨-, rfl⟩ | ⟨-, b', o', hA, rfl, -, -⟩⟩ := h1
          · intro b hb hm
            simp at hm
          · intro b hb hm
            rcases hP.told.2 with ⟨h3, -⟩ | ⟨g, cap, cur, h3, -⟩
            · rw [h3] at he
              injection he with he
              rw [hA] at he
              cases he
            · rw [h3] at he
              injection he with he
              rw [hA] at he
              injection he with he
              injection he with he
              have := List.mem_singleton.1 hm
              subst this
              rw [← he] at hb
              exact hP.nb9 g (by rw [h3]; rfl) hb
        have HE := Lib.hid (And.intro oF (And.intro tF hdis))
        have HBF := Lib.hid ((hP.bel.setCell (p := ⟨w.heap.size, 0, none⟩) (Nat.le_refl _) (.slice A2 h.g.length c2)).setCell (p := ⟨w.heap.size, 1, none⟩) (Nat.le_refl _) (.slice B2 h.l.length d2))
        have HRES : Hid (playH n ops = h ∧ playT n ops = t) := Lib.hid (by rw [HN.out.1, HN.out.2, HS.out]; exact ⟨rfl, rfl⟩)
        have HLO := Lib.hid (And.intro hP.lo h2)
        have npb : w1.heap.size ≠ w.heap.size := by omega
        clear kF oF tF h1 h2 hdis hs hlk hr hP
        go_wp2_with fail
        exact bodyPost_ret (v := .tuple #[.agg #[.slice A2 h.g.length c2, .slice B2 h.l.length d2], .slice A9 t.length c9]) (by simp [results, Tryd.results15, go_sem, z0, z1]) rfl
          ⟨_, _, bs2, _, bt, rfl, by rw [HRES.out.1]; exact HE.out.1, by rw [HRES.out.2]; exact HE.out.2.1, fun b hb => by have := HLO.out.1 b hb; omega, fun b hb => by have := HLO.out.2 b hb; omega, HE.out.2.2, HBF.out⟩
end Go.Proofs.YtpenneklpolhgaaDoor
