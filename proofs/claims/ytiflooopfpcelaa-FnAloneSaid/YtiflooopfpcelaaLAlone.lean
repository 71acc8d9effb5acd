/- FnAlone answers true at every code: a drawn program's first code, alone, runs the same on both machines. No condition. -/
import Derived.Test.YtiflooopfpcelaaK5
import Derived.Test.YtiflooopfpcelaaC23
import Derived.Test.YtiflooopfpcelaaV9
import Derived.Test.YtiflooopfpcelaaK4
import Derived.Test.YtiflooopfpcelaaLaw
import Derived.BigRegion
namespace Go.Proofs.Ytiflooopfpcelaa
set_option maxRecDepth 20000
set_option linter.unusedSimpArgs false
set_option linter.unusedVariables false
open Go.ChangeShapes Go.WideShapes Go.ChangeAt Go.RowKit
set_option linter.unusedVariables false
set_option maxHeartbeats 400000 in
theorem lawbigA (A : Option Addr) (n c : Nat) (w : World) (hnc : n ≤ c) (hc : c ≤ 9223372036854775807) :
    Calls Try.prog 34 #[.slice A n c] w fun e w' => e = .returned (.bool (decide ((1048576 : Int) < n))) ∧ w = w' := by
  go_enter Try.func34, Try.ntmps34
  go_wp2_with fail
  go_ret
  exact ⟨rfl, rfl⟩
set_option maxHeartbeats 800000 in
theorem lawAt (A : Option Addr) (n c : Nat) (i : Nat) (w : World) (h : Byt w A n) (hnc : n ≤ c) (hc : c ≤ 9223372036854775807) (hn : n ≤ 1048576) (hi : i ≤ 100) :
    Calls Try.prog 37 #[.slice A n c, .int .i64 i] w fun e w' => ∃ z : Int, e = .returned (.int .i64 z) ∧ 0 ≤ z ∧ z ≤ 255 ∧ w = w' := by
  by_cases hlt : i < n
  · obtain ⟨ad, rfl, hb, hcell⟩ := h (by omega)
    obtain ⟨x, hx0, hx1, hx⟩ := hcell i hlt
    have hlt' : (i : Int) < n := by omega
    have hxr : IntKind.i64.wrap x = x := IntWalk.i64_in _ (by omega)
    clear hcell h
    go_enter Try.func37, Try.ntmps37
    go_wp2_with fail
    go_ret
    exact ⟨x, ret_int (by first | exact hxr | rfl), hx0, hx1, rfl⟩
  · have hlt' : ¬ (i : Int) < n := by omega
    have e1 : IntKind.i64.wrap ((i : Int) * 13) = (i : Int) * 13 := IntWalk.i64_in _ (by omega)
    have e2 : IntKind.i64.wrap ((n : Int) * 5) = (n : Int) * 5 := IntWalk.i64_in _ (by omega)
    have e3 : IntKind.i64.wrap ((i : Int) * 13 + (n : Int) * 5) = (i : Int) * 13 + (n : Int) * 5 := IntWalk.i64_in _ (by omega)
    clear h
    go_enter Try.func37, Try.ntmps37
    go_wp2_with fail
    go_ret
    refine ⟨_, rfl, ?_, ?_, rfl⟩
    all_goals omega
set_option maxHeartbeats 800000 in
theorem lawSame (v u : Value) (xs : List Int) (w : World) (h : Rd w v 1 xs.length (ints xs)) (h' : Rd w u 1 xs.length (ints xs)) :
    Calls Try.prog 40 #[v, u] w fun e w' => e = .returned (.bool true) ∧ Below w.heap.size w w' := by
  obtain ⟨A, c, rfl, -, hnc, hc, hr⟩ := h
  obtain ⟨A', c', rfl, -, hnc', hc', hr'⟩ := h'
  unfold maxLen at hc hc'
  go_enter Try.func40, Try.ntmps40
  go_wp2
  go_loopw [5] (fun i wr => ∃ k nq : Nat, k ≤ xs.length ∧ i = .int .i64 k ∧ wr = w.drewN nq) (fun i _ => xs.length - (intOf i).toNat)
  case atStart => exact ⟨0, 0, Nat.zero_le _, rfl, rfl⟩
  case round =>
    obtain ⟨k, nq, hk, rfl, rfl⟩ := hrel
    by_cases hlt : k < xs.length
    · obtain ⟨b, o, rfl, hb, hcell⟩ := hr (by omega)
      obtain ⟨b', o', rfl, hb', hcell'⟩ := hr' (by omega)
      obtain ⟨x, hxk, hx⟩ := int_at hcell hlt
      obtain ⟨y, hyk, hy⟩ := int_at (k := k) hcell' hlt
      obtain rfl : x = y := Option.some.inj (hxk.out.symm.trans hyk.out)
      clear hcell hcell' hr hr'
      go_wp2_with fail
      go_quiet (fail)
      go_wp2
      exact ⟨⟨k + 1, _, by omega, by go_num, rfl⟩, by simp [intOf]; omega⟩
    · go_wp2_with fail
      go_ret
      exact ⟨rfl, below_more (Below.refl _ _) _⟩
/-- a program of one code that lies in a slice of its own -/
theorem rdss_one {w : World} {b : Nat} {cv : Value} {code : List Ins} (hb : b < w.heap.size) (hc : w.cell? ⟨b, 0, none⟩ = some cv) (h : Rd w cv 4 code.length (flc code)) : RdSS w (.slice (some ⟨b, 0, none⟩) 1 1) [code] :=
  ⟨[cv], ⟨some ⟨b, 0, none⟩, 1, rfl, rfl, Nat.le_refl _, by simp [maxLen], fun _ => ⟨b, 0, rfl, hb, fun j u hu => by
    cases j with
    | zero => simp at hu; subst hu; simpa using hc
    | succ j => simp at hu⟩⟩, h, trivial⟩
theorem progOk_one {c : Int} {xs : List Ins} {xss : List (List Ins)} (h : progOkF ⟨c, xs :: xss⟩ = true) : progOkF ⟨c, [xs]⟩ = true := by
  unfold progOkF at h ⊢
  simp only [Bool.and_eq_true, List.all_cons, List.all_nil] at h ⊢
  exact ⟨⟨h.1.1, rfl⟩, h.2.1, trivial⟩
/-- what holds at each round: machine a in box gA, machine b in box gB, which is a with its buffer emptied -/
def AInv (p : Pr) (gA gB : Nat) (ty : TypeId) (wr : World) : Prop :=
  ∃ M t mvA tvA mvB tvB bsA bsB, Bk wr gA #[mvA, tvA] ty ∧ Bk wr gB #[mvB, tvB] ty ∧ OwnMa wr mvA tvA M bsA ∧ OwnMa wr mvB tvB (daM M 0 t) bsB ∧ Hid (machOk p M = true ∧ M.ths[0]? = some t) ∧ (∀ b ∈ bsA, b ≠ gA ∧ b ≠ gB) ∧ (∀ b ∈ bsB, b ≠ gA ∧ b ≠ gB)
set_option maxHeartbeats 8000000 in
theorem walk_Alone (A : Option Addr) (n c : Nat) (w : World) (h : Byt w A n) (hnc : n ≤ c) (hc : c ≤ 9223372036854775807) :
    Calls Try.prog 8 #[.slice A n c] w fun e w' => e = .returned (.bool true) ∧ Below w.heap.size w w' := by
  by_cases hn : (1048576 : Int) < n
  · go_enter Try.func8, Try.ntmps8
    go_wp2_with (go_at_call 34; refine (lawbigA _ _ _ _ hnc hc).mono ?_; rintro e w' ⟨rfl, rfl⟩)
    go_ret
    exact ⟨rfl, Below.refl _ _⟩
  · go_enter Try.func8, Try.ntmps8
    go_wp2_with (go_at_call 34; refine (lawbigA _ _ _ _ hnc hc).mono ?_; rintro e w' ⟨rfl, rfl⟩)
    refine (DrawProgOk A n c _ h hnc hc (by omega)).mono ?_
    rintro e w1 ⟨v1, c1, xss, rfl, hR, hb1⟩
    obtain ⟨vs, ⟨A1, d1, rfl, hvl, hnc1, hcm1, hr1⟩, hin⟩ := id hR
    unfold maxLen at hcm1
    have hb2 := (Below.refl _ w1).alloc (Nat.le_refl _) (.cells #[.int .i64 c1, .slice A1 xss.length d1] 36)
    have k2 := Bk.new w1 #[.int .i64 c1, .slice A1 xss.length d1] 36
    have hP := spec_ProgOk (.slice A1 xss.length d1) ⟨c1, xss⟩ _ (hR.below hb2)
    have HB1 := Lib.hid hb1
    have HR := Lib.hid hR
    have HI := Lib.hid hin
    have HR1 := Lib.hid hr1
    clear hR hin hr1 hb1
    cases hok : progOkF ⟨c1, xss⟩
    · rw [hok] at hP
      have HP := Lib.hid hP
      clear hP hok
      go_wp2_with fail
      refine HP.out.mono ?_
      rintro e w3 ⟨rfl, hb3⟩
      have HB3 := Lib.hid ((HB1.out.trans (hb2.mono HB1.out.size)).trans (hb3.mono (HB1.out.trans (hb2.mono HB1.out.size)).size))
      clear hb2 hb3 k2
      go_wp2_with fail
      go_ret
      exact ⟨rfl, HB3.out⟩
    · rw [hok] at hP
      have HP := Lib.hid hP
      have HOK := Lib.hid hok
      clear hP hok
      go_wp2_with fail
      refine HP.out.mono ?_
      rintro e w3 ⟨rfl, hb3⟩
      have hpl := progOk_len HOK.out
      simp only at hpl
      obtain ⟨b, o, rfl, hb, hcell⟩ := HR1.out (by omega)
      match xss, HOK, HI, hpl, hcell, HR with
      | code :: rest, HOK, HI, hpl, hcell, HR =>
      obtain ⟨ck, hck, hrk⟩ := HI.out.at_ (k := 0) (xs := code) rfl
      obtain ⟨Ak, dk, rfl, -⟩ := id hrk
      have hB23 := hb2.trans (hb3.mono hb2.size)
      have k3 := k2.below hb3 k2.lt
      have hx0 := (hB23.cell (p := ⟨b, o + 0, none⟩) hb).trans (hcell 0 _ hck)
      simp only [Nat.add_zero] at hx0
      have lb : b < w3.heap.size := Nat.lt_of_lt_of_le hb hB23.size
      obtain ⟨p0, -⟩ := k3.at_ 0 (x := .int .i64 c1) rfl
      obtain ⟨p1, -⟩ := k3.at_ 1 (x := .slice (some ⟨b, o, none⟩) (code :: rest).length d1) rfl
      have l3 := k3.lt
      have hpl2 : (0 : Int) < ((code :: rest).length : Nat) := by omega
      clear hb2 hb3 k2
      go_wp2_with fail
      go_cut [4] (fun q wz => ∃ (g0 g1 : Nat), q = .pointer (some ⟨g1, 0, none⟩) ∧ Bk wz g1 #[.int .i64 c1, .slice (some ⟨g0, 0, none⟩) 1 1] 36 ∧ RdSS wz (.slice (some ⟨g0, 0, none⟩) 1 1) [code] ∧ Below w3.heap.size w3 wz ∧ w3.heap.size ≤ g1)
      case first =>
        have hrd3 := hrk.below hB23
        have HRD3 := Lib.hid hrd3
        clear hrd3
        go_region
        · go_wp2_with fail
          go_meet
          have hb := ((Below.refl w3.heap.size w3).alloc (Nat.le_refl _) (.cells #[.slice Ak code.length dk] 65)).alloc (by simp) (.cells #[.int .i64 c1, .slice (some ⟨w3.heap.size, 0, none⟩) 1 1] 36)
          have ks := (Bk.new w3 #[.slice Ak code.length dk] 65).alloc (.cells #[.int .i64 c1, .slice (some ⟨w3.heap.size, 0, none⟩) 1 1] 36)
          have kp : Bk ((w3.alloc (.cells #[.slice Ak code.length dk] 65)).alloc (.cells #[.int .i64 c1, .slice (some ⟨w3.heap.size, 0, none⟩) 1 1] 36)) (w3.heap.size + 1) #[.int .i64 c1, .slice (some ⟨w3.heap.size, 0, none⟩) 1 1] 36 := by
            have := Bk.new (w3.alloc (.cells #[.slice Ak code.length dk] 65)) #[.int .i64 c1, .slice (some ⟨w3.heap.size, 0, none⟩) 1 1] 36
            rwa [World.size_alloc] at this
          have kp2 := Bk.below kp (Below.refl _ _).drew kp.lt
          have ks2 := Bk.below ks (Below.refl _ _).drew ks.lt
          exact ⟨w3.heap.size, w3.heap.size + 1, rfl, kp2, rdss_one ks2.lt (ks2.at_ 0 rfl).1 (HRD3.out.below hb.drew), hb.drew, Nat.le_succ _⟩
        · go_wp2_with fail
          go_meet
          have hb := ((Below.refl w3.heap.size w3).alloc (Nat.le_refl _) (.cells #[.int .i64 c1, .slice (some ⟨w3.heap.size + 1, 0, none⟩) 1 1] 36)).alloc (by simp) (.cells #[.slice Ak code.length dk] 65)
          have kp := (Bk.new w3 #[.int .i64 c1, .slice (some ⟨w3.heap.size + 1, 0, none⟩) 1 1] 36).alloc (.cells #[.slice Ak code.length dk] 65)
          have ks : Bk ((w3.alloc (.cells #[.int .i64 c1, .slice (some ⟨w3.heap.size + 1, 0, none⟩) 1 1] 36)).alloc (.cells #[.slice Ak code.length dk] 65)) (w3.heap.size + 1) #[.slice Ak code.length dk] 65 := by
            have := Bk.new (w3.alloc (.cells #[.int .i64 c1, .slice (some ⟨w3.heap.size + 1, 0, none⟩) 1 1] 36)) #[.slice Ak code.length dk] 65
            rwa [World.size_alloc] at this
          have kp2 := Bk.below kp (Below.refl _ _).drew kp.lt
          have ks2 := Bk.below ks (Below.refl _ _).drew ks.lt
          exact ⟨w3.heap.size + 1, w3.heap.size, rfl, kp2, rdss_one ks2.lt (ks2.at_ 0 rfl).1 (HRD3.out.below hb.drew), hb.drew, Nat.le_refl _⟩
      obtain ⟨g0, g1, rfl, kone, hR1, hBc, hg1⟩ := hcut
      rename World => wc
      have hok1 : progOkF ⟨c1, [code]⟩ = true := progOk_one HOK.out
      have HG1 := Lib.hid kone.lt
      have HR1c := Lib.hid hR1
      have hBw := (HB1.out.trans (hB23.mono HB1.out.size)).trans (hBc.mono (HB1.out.trans (hB23.mono HB1.out.size)).size)
      have HST := Lib.hid fun (W : World) (hW : Below wc.heap.size wc W) => by
        have hq := impl_Start (.slice (some ⟨g0, 0, none⟩) 1 1) ⟨c1, [code]⟩ W (HR1c.out.below hW) (WalkArith.wf_i64 (by simp only; omega))
        rw [hok1] at hq
        exact hq
      have hzw := hBw.size
      have HBW := Lib.hid hBw
      have HOK1 := Lib.hid hok1
      obtain ⟨o0, -⟩ := kone.at_ 0 (x := .int .i64 c1) rfl
      obtain ⟨o1, -⟩ := kone.at_ 1 (x := .slice (some ⟨g0, 0, none⟩) 1 1) rfl
      clear hR1 hBc hBw hok1 hB23 k3 hx0 p0 p1 l3 lb hcell hck hrk hb hvl hnc1 hcm1
      go_wp2_with fail
      refine (HST.out _ (Below.refl _ _)).mono ?_
      rintro e w4 ⟨mvA, tvA, bsA, rfl, hoA, hloA, hb4⟩
      obtain ⟨A4, c4, B4, d4, rfl, rfl⟩ := hoA.slices
      obtain ⟨S, hS⟩ : ∃ S, startF ⟨c1, [code]⟩ = S := ⟨_, rfl⟩
      rw [hS] at hoA ⊢
      have HSS := Lib.hid hS
      clear hS
      have kone4 := (kone.below hb4 kone.lt).alloc (.cells #[.slice A4 S.mem.length c4, .slice B4 S.ths.length d4] 41)
      have kA4 := Bk.new w4 #[.slice A4 S.mem.length c4, .slice B4 S.ths.length d4] 41
      have hA4 := (Below.refl w4.heap.size w4).alloc (Nat.le_refl _) (.cells #[.slice A4 S.mem.length c4, .slice B4 S.ths.length d4] 41)
      have hB4 := hb4.trans (hA4.mono hb4.size)
      have hoA4 := hoA.below hA4
      have hiA := hoA.lt
      have hz4 := hb4.size
      clear o0 o1 hoA hA4 hb4
      obtain ⟨o0, -⟩ := kone4.at_ 0 (x := .int .i64 c1) rfl
      obtain ⟨o1, -⟩ := kone4.at_ 1 (x := .slice (some ⟨g0, 0, none⟩) 1 1) rfl
      have HB4 := Lib.hid hB4
      have HO4 := Lib.hid (And.intro hoA4 (And.intro hloA hiA))
      clear hB4 hoA4 hloA hiA kone
      go_wp2_with fail
      refine (HST.out _ HB4.out).mono ?_
      rintro e w5 ⟨mvB, tvB, bsB, rfl, hoB, hloB, hb5⟩
      obtain ⟨A5, c5, B5, d5, rfl, rfl⟩ := hoB.slices
      rw [HSS.out] at hoB ⊢
      have kone5 := (kone4.below hb5 kone4.lt).alloc (.cells #[.slice A5 S.mem.length c5, .slice B5 S.ths.length d5] 41)
      have kA5 := (kA4.below hb5 kA4.lt).alloc (.cells #[.slice A5 S.mem.length c5, .slice B5 S.ths.length d5] 41)
      have kB5 := Bk.new w5 #[.slice A5 S.mem.length c5, .slice B5 S.ths.length d5] 41
      have hA5 := (Below.refl w5.heap.size w5).alloc (Nat.le_refl _) (.cells #[.slice A5 S.mem.length c5, .slice B5 S.ths.length d5] 41)
      have hB5 := (HB4.out.trans (hb5.mono HB4.out.size)).trans (hA5.mono (HB4.out.trans (hb5.mono HB4.out.size)).size)
      have hoB5 := hoB.below hA5
      have hoA5 := (HO4.out.1.below hb5).below hA5
      have hiB := hoB.lt
      have hz5 := hb5.size
      simp only [World.size_alloc] at hz5
      have hlg : w4.heap.size < w5.heap.size := by omega
      have HINV : Hid (AInv ⟨c1, [code]⟩ w4.heap.size w5.heap.size 41 (w5.alloc (.cells #[.slice A5 S.mem.length c5, .slice B5 S.ths.length d5] 41))) := Lib.hid (by
        have hmo := startF_ok HOK1.out
        have hs1 : S.ths = [z4] := by rw [← HSS.out]; unfold startF; rw [if_pos HOK1.out]; rfl
        have hth : S.ths[0]? = some z4 := by rw [hs1]; rfl
        have hda : daM S 0 z4 = S := daM_nil hth rfl
        rw [HSS.out] at hmo
        exact ⟨S, z4, _, _, _, _, bsA, bsB, kA5, kB5, hoA5, by rw [hda]; exact hoB5, Lib.hid ⟨hmo, hth⟩, fun b hb => by have := HO4.out.2.2 b hb; omega, fun b hb => by have := hloB b hb; have := hiB b hb; simp only [World.size_alloc] at *; omega⟩)
      have HB5 := Lib.hid hB5
      have hge : wc.heap.size ≤ w4.heap.size := hz4
      have hgl : g1 < wc.heap.size := by have := HB4.out.size; simp only [World.size_alloc] at this; exact HG1.out
      clear o0 o1 kone4 kA4 HO4 kA5 kB5 hA5 hB5 hoB5 hoA5 hiB hoB hloB hb5
      go_wp2_with fail
      go_loopw [9] (fun i wr => ∃ k : Nat, k ≤ 60 ∧ i = .int .i64 k ∧ AInv ⟨c1, [code]⟩ w4.heap.size w5.heap.size 41 wr ∧ Bk wr g1 #[.int .i64 c1, .slice (some ⟨g0, 0, none⟩) 1 1] 36 ∧ Below wc.heap.size wc wr) (fun i _ => 60 - (intOf i).toNat)
      case atStart => exact ⟨0, Nat.zero_le _, rfl, HINV.out, kone5, HB5.out⟩
      case round =>
        obtain ⟨k, hk, rfl, ⟨M, t, mvA, tvA, mvB, tvB, bsA, bsB, kA, kB, hOA, hOB, HQ, hfA, hfB⟩, ko, hB⟩ := hrel
        clear HINV kone5 HB5
        obtain ⟨A6, c6, B6, d6, rfl, rfl⟩ := hOA.slices
        obtain ⟨A7, c7, B7, d7, rfl, rfl⟩ := hOB.slices
        have lA := kA.lt
        have lB := kB.lt
        have lo := ko.lt
        have lwr := hB.size
        by_cases hlt : (k : Int) < 60
        · have hBa := hB.alloc hB.size (.cells #[.int .i64 0, .bool false] 54)
          have kAa := kA.alloc (.cells #[.int .i64 0, .bool false] 54)
          have kBa := kB.alloc (.cells #[.int .i64 0, .bool false] 54)
          have koa := ko.alloc (.cells #[.int .i64 0, .bool false] 54)
          have kv := Bk.new wr #[.int .i64 0, .bool false] 54
          have hA6 := (Below.refl wr.heap.size wr).alloc (Nat.le_refl _) (.cells #[.int .i64 0, .bool false] 54)
          have HLT := Lib.hid (And.intro hOA.lt hOB.lt)
          have hOAa := hOA.below hA6
          have hOBa := hOB.below hA6
          obtain ⟨W2, hW2⟩ : ∃ W2, W2 = wr.alloc (.cells #[.int .i64 0, .bool false] 54) := ⟨_, rfl⟩
          have hW2s : W2.heap.size = wr.heap.size + 1 := by rw [hW2]; simp
          rw [← hW2] at hBa kAa kBa koa kv hOAa hOBa
          have HW2 := Lib.hid (And.intro hW2 hW2s)
          have HBa := Lib.hid hBa
          have hBy : Byt W2 A n := h.keep (B := 0) (fun ad ha hn0 => ((HBW.out.trans (hBa.mono HBW.out.size)).block _ (by obtain ⟨ad', e1, e2, _⟩ := h hn0; rw [ha] at e1; injection e1 with e1; subst e1; exact e2))) (HBW.out.trans (hBa.mono HBW.out.size)).size
          obtain ⟨v0, f0⟩ := kv.at_ 0 (x := .int .i64 0) rfl
          obtain ⟨v1, f1⟩ := kv.at_ 1 (x := .bool false) rfl
          obtain ⟨o0, -⟩ := koa.at_ 0 (x := .int .i64 c1) rfl
          obtain ⟨o1, -⟩ := koa.at_ 1 (x := .slice (some ⟨g0, 0, none⟩) 1 1) rfl
          obtain ⟨a0, -⟩ := kAa.at_ 0 (x := .slice A6 M.mem.length c6) rfl
          obtain ⟨a1, -⟩ := kAa.at_ 1 (x := .slice B6 M.ths.length d6) rfl
          clear hW2 hW2s hBa hOA hOB kA kB ko hB hA6
          go_wp2_with fail
          rw [← HW2.out.1]
          try go_wp2_with fail
          refine (lawAt A n c k W2 hBy hnc hc (by omega) (by omega)).mono ?_
          rintro e w6 ⟨z, rfl, hz0, hz1, rfl⟩
          have htot := machOk_tot HQ.out.1
          have hnw : ∀ b, (b ∈ bsA ∨ b ∈ bsB) → b ≠ wr.heap.size := fun b hb => by rcases hb with hb | hb; exact Nat.ne_of_lt (HLT.out.1 b hb); exact Nat.ne_of_lt (HLT.out.2 b hb)
          have hsz0 : wr.heap.size < W2.heap.size := by have := HW2.out.2; omega
          by_cases hz3 : z % 3 = 0
          · have hq3 : (z % 3 == 0) = true := by simp [hz3]
            have kA0 := kAa
            have kB0 := kBa
            have ko0 := koa
            have kv0 := kv
            have hOA0 := hOAa
            have hOB0 := hOBa
            have hB0 := HBa.out
            clear v0 f0 v1 f1 o0 o1 a0 a1
            have kA1 := kA0.far (p := ⟨wr.heap.size, 1, none⟩) (by show w4.heap.size ≠ wr.heap.size; omega) (.bool true)
            have kB1 := kB0.far (p := ⟨wr.heap.size, 1, none⟩) (by show w5.heap.size ≠ wr.heap.size; omega) (.bool true)
            have ko1 := ko0.far (p := ⟨wr.heap.size, 1, none⟩) (by show g1 ≠ wr.heap.size; omega) (.bool true)
            have kv1 := kv0.set_ 1 (.bool true)
            have hOA1 := hOA0.far (b := wr.heap.size) (k := 1) (u := .bool true) fun b hb => (hnw b (.inl hb))
            have hOB1 := hOB0.far (b := wr.heap.size) (k := 1) (u := .bool true) fun b hb => (hnw b (.inr hb))
            have hB1 := hB0.setCell (p := ⟨wr.heap.size, 1, none⟩) (by show wc.heap.size ≤ wr.heap.size; omega) (.bool true)
            obtain ⟨Wx, hWx⟩ : ∃ Wx, Wx = W2.setCell ⟨wr.heap.size, 1, none⟩ (.bool true) := ⟨_, rfl⟩
            have hsx0 : wr.heap.size < Wx.heap.size := by rw [hWx]; simpa [World.setCell] using hsz0
            rw [← hWx] at kA1 kB1 ko1 kv1 hOA1 hOB1 hB1
            have kv1' : Bk Wx wr.heap.size #[.int .i64 0, .bool true] 54 := kv1
            have HX := Lib.hid (And.intro kA1 (And.intro kB1 (And.intro ko1 (And.intro kv1' (And.intro hOA1 (And.intro hOB1 (And.intro hB1 hsx0)))))))
            have HWX := Lib.hid hWx
            obtain ⟨z1, y1⟩ := kv0.at_ 1 (x := .bool false) rfl
            clear kA1 kB1 ko1 kv1 kv1' hOA1 hOB1 hB1 hWx kA0 kB0 ko0 kv0 hOA0 hOB0 hB0 hsx0
            go_upto_region 17 with (fail)
            rw [← HWX.out]
            clear z1 y1
            cases hcd : canMv ⟨c1, [code]⟩ M ⟨0, true⟩
            · have HCD := Lib.hid hcd
              clear hcd
              obtain ⟨kAx, kBx, kox, kvx, hOAx, hOBx, hBx, hsx⟩ := HX.out
              obtain ⟨v0, -⟩ := kvx.at_ 0 (x := .int .i64 0) rfl
              obtain ⟨v1, -⟩ := kvx.at_ 1 (x := .bool true) rfl
              obtain ⟨o0, -⟩ := kox.at_ 0 (x := .int .i64 c1) rfl
              obtain ⟨o1, -⟩ := kox.at_ 1 (x := .slice (some ⟨g0, 0, none⟩) 1 1) rfl
              obtain ⟨a0, -⟩ := kAx.at_ 0 (x := .slice A6 M.mem.length c6) rfl
              obtain ⟨a1, -⟩ := kAx.at_ 1 (x := .slice B6 M.ths.length d6) rfl
              have hD := (impl_DoMove _ _ _ ⟨c1, [code]⟩ M ⟨0, true⟩ Wx (HR1c.out.below hBx) hOAx.rd (by omega))
              rw [HCD.out] at hD
              have HD := Lib.hid hD
              clear hD
              clear kAx kBx kox kvx hOAx hOBx hBx
              go_wp2_with fail
              refine HD.out.mono ?_
              rintro e w8 ⟨mv8, tv8, bs8, rfl, ho8, hlo8, hb8⟩
              obtain ⟨A8, c8, B8, d8, rfl, rfl⟩ := ho8.slices
              obtain ⟨kAx, kBx, kox, kvx, hOAx, hOBx, hBx, hsx⟩ := HX.out
              obtain ⟨M8, hM8⟩ : ∃ M8, doF ⟨c1, [code]⟩ M ⟨0, true⟩ = M8 := ⟨_, rfl⟩
              rw [hM8] at ho8 ⊢
              have HM8 := Lib.hid hM8
              clear hM8
              have hN := (Below.refl w8.heap.size w8).alloc (Nat.le_refl _) (.cells #[.slice A8 M8.mem.length c8, .slice B8 M8.ths.length d8] 41)
              have kA8 := (kAx.below hb8 kAx.lt).alloc (.cells #[.slice A8 M8.mem.length c8, .slice B8 M8.ths.length d8] 41)
              have kB8 := (kBx.below hb8 kBx.lt).alloc (.cells #[.slice A8 M8.mem.length c8, .slice B8 M8.ths.length d8] 41)
              have ko8 := (kox.below hb8 kox.lt).alloc (.cells #[.slice A8 M8.mem.length c8, .slice B8 M8.ths.length d8] 41)
              have kv8 := (kvx.below hb8 kvx.lt).alloc (.cells #[.slice A8 M8.mem.length c8, .slice B8 M8.ths.length d8] 41)
              have hOA8 := (hOAx.below hb8).below hN
              have hOB8 := (hOBx.below hb8).below hN
              have hON8 := ho8.below hN
              have hB8 := (hBx.trans (hb8.mono hBx.size)).trans (hN.mono (hBx.trans (hb8.mono hBx.size)).size)
              have hs8 := hb8.size
              have hfN : ∀ b ∈ bs8, b ≠ w4.heap.size ∧ b ≠ w5.heap.size := fun b hb => by have := hlo8 b hb; omega
              have HF8 := Lib.hid (And.intro hOA8 (And.intro hOB8 (And.intro hON8 (And.intro hB8 (And.intro kA8 (And.intro kB8 (And.intro ko8 kv8)))))))
              clear kAx kBx kox kvx hOAx hOBx hBx ho8 hlo8 hb8 hN hOA8 hOB8 hON8 hB8 v0 v1 o0 o1 a0 a1
              clear kA8 kB8 ko8 kv8
              go_wp2_with fail
              obtain ⟨hOA8, hOB8, hON8, hB8, kA8, kB8, ko8, kv8⟩ := HF8.out
              exact ⟨⟨k + 1, by omega, by go_num, ⟨M, t, _, _, _, _, bsA, bsB, kA8, kB8, hOA8, hOB8, HQ, hfA, hfB⟩, ko8, hB8⟩, by simp [intOf]; omega⟩
            · have HCD := Lib.hid hcd
              clear hcd
              obtain ⟨kAx, kBx, kox, kvx, hOAx, hOBx, hBx, hsx⟩ := HX.out
              obtain ⟨v0, -⟩ := kvx.at_ 0 (x := .int .i64 0) rfl
              obtain ⟨v1, -⟩ := kvx.at_ 1 (x := .bool true) rfl
              obtain ⟨o0, -⟩ := kox.at_ 0 (x := .int .i64 c1) rfl
              obtain ⟨o1, -⟩ := kox.at_ 1 (x := .slice (some ⟨g0, 0, none⟩) 1 1) rfl
              obtain ⟨a0, -⟩ := kAx.at_ 0 (x := .slice A6 M.mem.length c6) rfl
              obtain ⟨a1, -⟩ := kAx.at_ 1 (x := .slice B6 M.ths.length d6) rfl
              have hD := (impl_DoMove _ _ _ ⟨c1, [code]⟩ M ⟨0, true⟩ Wx (HR1c.out.below hBx) hOAx.rd (by omega))
              rw [HCD.out] at hD
              have HD := Lib.hid hD
              clear hD
              clear kAx kBx kox kvx hOAx hOBx hBx
              go_wp2_with fail
              refine HD.out.mono ?_
              rintro e w8 ⟨mv8, tv8, bs8, rfl, ho8, hlo8, hb8⟩
              obtain ⟨A8, c8, B8, d8, rfl, rfl⟩ := ho8.slices
              obtain ⟨kAx, kBx, kox, kvx, hOAx, hOBx, hBx, hsx⟩ := HX.out
              obtain ⟨M8, hM8⟩ : ∃ M8, doF ⟨c1, [code]⟩ M ⟨0, true⟩ = M8 := ⟨_, rfl⟩
              rw [hM8] at ho8 ⊢
              have HM8 := Lib.hid hM8
              clear hM8
              have hN := (Below.refl w8.heap.size w8).alloc (Nat.le_refl _) (.cells #[.slice A8 M8.mem.length c8, .slice B8 M8.ths.length d8] 41)
              have kA8 := (kAx.below hb8 kAx.lt).alloc (.cells #[.slice A8 M8.mem.length c8, .slice B8 M8.ths.length d8] 41)
              have kB8 := (kBx.below hb8 kBx.lt).alloc (.cells #[.slice A8 M8.mem.length c8, .slice B8 M8.ths.length d8] 41)
              have ko8 := (kox.below hb8 kox.lt).alloc (.cells #[.slice A8 M8.mem.length c8, .slice B8 M8.ths.length d8] 41)
              have kv8 := (kvx.below hb8 kvx.lt).alloc (.cells #[.slice A8 M8.mem.length c8, .slice B8 M8.ths.length d8] 41)
              have hOA8 := (hOAx.below hb8).below hN
              have hOB8 := (hOBx.below hb8).below hN
              have hON8 := ho8.below hN
              have hB8 := (hBx.trans (hb8.mono hBx.size)).trans (hN.mono (hBx.trans (hb8.mono hBx.size)).size)
              have hs8 := hb8.size
              have hfN : ∀ b ∈ bs8, b ≠ w4.heap.size ∧ b ≠ w5.heap.size := fun b hb => by have := hlo8 b hb; omega
              have HF8 := Lib.hid (And.intro hOA8 (And.intro hOB8 (And.intro hON8 (And.intro hB8 (And.intro kA8 (And.intro kB8 (And.intro ko8 kv8)))))))
              clear kAx kBx kox kvx hOAx hOBx hBx ho8 hlo8 hb8 hN hOA8 hOB8 hON8 hB8 v0 v1 o0 o1 a0 a1
              obtain ⟨va, fa⟩ := kA8.at_ 0 (x := .slice A6 M.mem.length c6) rfl
              obtain ⟨vb, fb⟩ := kA8.at_ 1 (x := .slice B6 M.ths.length d6) rfl
              obtain ⟨hOA8, hOB8, hON8, hB8, -, -, -, -⟩ := HF8.out
              have S0 : Value := .slice A8 M8.mem.length c8
              have kA9 := (kA8.set_ 0 (.slice A8 M8.mem.length c8)).set_ 1 (.slice B8 M8.ths.length d8)
              have kB9 := (kB8.far (p := ⟨w4.heap.size, 0, none⟩) (by show w5.heap.size ≠ w4.heap.size; omega) (.slice A8 M8.mem.length c8)).far (p := ⟨w4.heap.size, 1, none⟩) (by show w5.heap.size ≠ w4.heap.size; omega) (.slice B8 M8.ths.length d8)
              have ko9 := (ko8.far (p := ⟨w4.heap.size, 0, none⟩) (by show g1 ≠ w4.heap.size; omega) (.slice A8 M8.mem.length c8)).far (p := ⟨w4.heap.size, 1, none⟩) (by show g1 ≠ w4.heap.size; omega) (.slice B8 M8.ths.length d8)
              have kv9 := (kv8.far (p := ⟨w4.heap.size, 0, none⟩) (by show wr.heap.size ≠ w4.heap.size; omega) (.slice A8 M8.mem.length c8)).far (p := ⟨w4.heap.size, 1, none⟩) (by show wr.heap.size ≠ w4.heap.size; omega) (.slice B8 M8.ths.length d8)
              have hON9 := (hON8.far (b := w4.heap.size) (k := 0) (u := .slice A8 M8.mem.length c8) fun b hb => (hfN b hb).1).far (b := w4.heap.size) (k := 1) (u := .slice B8 M8.ths.length d8) fun b hb => (hfN b hb).1
              have hOB9 := (hOB8.far (b := w4.heap.size) (k := 0) (u := .slice A8 M8.mem.length c8) fun b hb => (hfB b hb).1).far (b := w4.heap.size) (k := 1) (u := .slice B8 M8.ths.length d8) fun b hb => (hfB b hb).1
              have hB9 := (hB8.setCell (p := ⟨w4.heap.size, 0, none⟩) (by show wc.heap.size ≤ w4.heap.size; omega) (.slice A8 M8.mem.length c8)).setCell (p := ⟨w4.heap.size, 1, none⟩) (by show wc.heap.size ≤ w4.heap.size; omega) (.slice B8 M8.ths.length d8)
              obtain ⟨W9, hW9⟩ : ∃ W9, W9 = ((w8.alloc (.cells #[.slice A8 M8.mem.length c8, .slice B8 M8.ths.length d8] 41)).setCell ⟨w4.heap.size, 0, none⟩ (.slice A8 M8.mem.length c8)).setCell ⟨w4.heap.size, 1, none⟩ (.slice B8 M8.ths.length d8) := ⟨_, rfl⟩
              rw [← hW9] at kA9 kB9 ko9 kv9 hON9 hOB9 hB9
              obtain ⟨vd, -⟩ := kv9.at_ 1 (x := .bool true) rfl
              have HW9 := Lib.hid hW9
              clear hOA8 hOB8 hON8 hB8 kA8 kB8 ko8 kv8 hW9 S0
              have h8 : M8 = drainF M 0 t := by
                rw [← HM8.out]
                unfold doF
                rw [HCD.out, if_pos rfl]
                exact doAt_eq (k := 0) (d := true) HQ.out.2 rfl
              have hfl : 0 < t.f.length := by
                obtain ⟨k', t', code', e1, e2, e3, e4, e5⟩ := can_parts HCD.out
                have ek : k' = 0 := by simp only at e1; omega
                subst ek
                obtain rfl : t' = t := Option.some.inj (e3.symm.trans HQ.out.2)
                simpa [canT, canDr] using e5
              obtain ⟨e1, e2, e3, e4, e5⟩ := daM_step (p := ⟨c1, [code]⟩) (code := code) HQ.out.1 HQ.out.2 rfl hfl
              have hok8 : machOk ⟨c1, [code]⟩ M8 = true := by rw [h8, ← e5]; exact doAt_ok e4
              have hth8 : M8.ths[0]? = some (drainT M.mem t) := by rw [h8]; exact e2
              have hda8 : daM M8 0 (drainT M.mem t) = daM M 0 t := by rw [h8]; exact e1
              have hokB : machOk ⟨c1, [code]⟩ (daM M 0 t) = true := daM_ok HQ.out.1 HQ.out.2 rfl
              have hthB : (daM M 0 t).ths[0]? = some (noBuf t) := daM_at HQ.out.2
              have hl8 : ((M8.ths.length : Int) == 0) = false := by rw [beq_eq_false_iff_ne]; have := (List.getElem?_eq_some_iff.1 hth8).1; omega
              have hlB : (((daM M 0 t).ths.length : Int) == 0) = false := by rw [beq_eq_false_iff_ne]; have := (List.getElem?_eq_some_iff.1 hthB).1; omega
              have hl8' : (0 : Int) < (M8.ths.length : Nat) := by have := (List.getElem?_eq_some_iff.1 hth8).1; omega
              have hlB' : (0 : Int) < ((daM M 0 t).ths.length : Nat) := by have := (List.getElem?_eq_some_iff.1 hthB).1; omega
              clear h8 e1 e2 e3 e4 e5 hfl
              obtain ⟨pA1, pA2, pA3, bA, oA, dA, Ax, cx, -, hteA, -, -, hbA, -, -, -, -, -, -, -, -, -, -, hElA⟩ := mach_open (p := ⟨c1, [code]⟩) (HR1c.out.below hB9) hON9.rd hok8
              obtain ⟨pB1, pB2, pB3, bB, oB, dB, Ay, cy, -, hteB, -, -, hbB, -, -, -, -, -, -, -, -, -, -, hElB⟩ := mach_open (p := ⟨c1, [code]⟩) (HR1c.out.below hB9) hOB9.rd hokB
              injection hteA with hteA1 _ hteA3
              injection hteB with hteB1 _ hteB3
              subst hteA1 hteA3 hteB1 hteB3
              obtain ⟨uA, cdA, cvA, avA, fvA, EA⟩ := hElA W9 (Below.refl _ _) 0 (List.getElem?_eq_some_iff.1 hth8).1
              obtain ⟨uB, cdB, cvB, avB, fvB, EB⟩ := hElB W9 (Below.refl _ _) 0 (List.getElem?_eq_some_iff.1 hthB).1
              have eA := Option.some.inj (EA.well.ht.symm.trans hth8)
              subst uA
              have eB := Option.some.inj (EB.well.ht.symm.trans hthB)
              subst uB
              obtain ⟨AvA, daA, rfl, -⟩ := id EA.ra
              obtain ⟨AvB, daB, rfl, -⟩ := id EB.ra
              have HSM := Lib.hid fun q : Past W9 => lawSame (.slice AvA t.v.length daA) (.slice AvB t.v.length daB) t.v q.v (EA.ra.below q.hb) (EB.ra.below q.hb)
              have Q0 := Past.cell kA9.lt (kA9.at_ 1 (x := .slice (some ⟨bA, oA, none⟩) M8.ths.length d8) rfl).1
              have Q1 := Past.cell kB9.lt (kB9.at_ 1 (x := .slice (some ⟨bB, oB, none⟩) (daM M 0 t).ths.length d7) rfl).1
              have x1 := EA.c1
              have x2 := EA.c2
              have y1 := EB.c1
              have y2 := EB.c2
              simp only [Nat.zero_mul, Nat.add_zero] at x1 x2 y1 y2
              have Q2 : ∀ q : Past W9, q.v.cell? ⟨bA, oA, none⟩ = some (.int .i64 t.pc) := Past.cell hbA x1
              have Q3 : ∀ q : Past W9, q.v.cell? ⟨bA, oA + 1, none⟩ = some (.slice AvA t.v.length daA) := Past.cell hbA x2
              have Q4 : ∀ q : Past W9, q.v.cell? ⟨bB, oB, none⟩ = some (.int .i64 t.pc) := Past.cell hbB y1
              have Q5 : ∀ q : Past W9, q.v.cell? ⟨bB, oB + 1, none⟩ = some (.slice AvB t.v.length daB) := Past.cell hbB y2
              have HE9 := Lib.hid (And.intro hON9 (And.intro hOB9 (And.intro kA9 (And.intro kB9 (And.intro ko9 (And.intro hB9 (And.intro hda8 (And.intro hok8 hth8))))))))
              clear hON9 hOB9 kA9 kB9 ko9 kv9 hB9 hda8 hok8 hth8 hokB hthB EA EB hElA hElB x1 x2 y1 y2
              go_upto_region 20 with (fail)
              rw [← HW9.out]
              go_wp2_with fail
              refine wp_region_past (by kernel_rfl) (by kernel_rfl) ?_
              repeat (go_big_quiet_step (first | (go_at_call 40; exact Calls.past_of (HSM.out _))))
              refine wpQuiet_nil ?_
              intro _ hw'
              obtain ⟨pq, rfl⟩ := hw'
              clear Q0 Q1 Q2 Q3 Q4 Q5
              go_wp2_with fail
              obtain ⟨hON9, hOB9, kA9, kB9, ko9, hB9, hda8, hok8, hth8⟩ := HE9.out
              exact ⟨⟨k + 1, by omega, by go_num, ⟨M8, drainT M.mem t, _, _, _, _, bs8, bsB, Bk.below kA9 pq.hb kA9.lt, Bk.below kB9 pq.hb kB9.lt, hON9.below pq.hb, by rw [hda8]; exact hOB9.below pq.hb, Lib.hid ⟨hok8, hth8⟩, hfN, hfB⟩, Bk.below ko9 pq.hb ko9.lt, hB9.trans (pq.hb.mono hB9.size)⟩, by simp [intOf]; omega⟩
          · have hq3 : (z % 3 == 0) = false := by simp [hz3]
            have hCM := impl_CanMove _ _ _ ⟨c1, [code]⟩ M ⟨0, false⟩ W2 (HR1c.out.below HBa.out) hOAa.rd
            cases hcm : canMv ⟨c1, [code]⟩ M ⟨0, false⟩
            · rw [hcm] at hCM
              have HCM := Lib.hid hCM
              clear hCM hcm
              go_wp2_with fail
              refine HCM.out.mono ?_
              rintro e w7 ⟨rfl, hb7⟩
              have kA0 := kAa.below hb7 kAa.lt
              have kB0 := kBa.below hb7 kBa.lt
              have ko0 := koa.below hb7 koa.lt
              have kv0 := kv.below hb7 kv.lt
              have hOA0 := hOAa.below hb7
              have hOB0 := hOBa.below hb7
              have hB0 := HBa.out.trans (hb7.mono HBa.out.size)
              have hsz0' : wr.heap.size < w7.heap.size := Nat.lt_of_lt_of_le hsz0 hb7.size
              have hsz0 := hsz0'
              clear v0 f0 v1 f1 o0 o1 a0 a1 hb7 hsz0'
              have kA1 := kA0.far (p := ⟨wr.heap.size, 1, none⟩) (by show w4.heap.size ≠ wr.heap.size; omega) (.bool true)
              have kB1 := kB0.far (p := ⟨wr.heap.size, 1, none⟩) (by show w5.heap.size ≠ wr.heap.size; omega) (.bool true)
              have ko1 := ko0.far (p := ⟨wr.heap.size, 1, none⟩) (by show g1 ≠ wr.heap.size; omega) (.bool true)
              have kv1 := kv0.set_ 1 (.bool true)
              have hOA1 := hOA0.far (b := wr.heap.size) (k := 1) (u := .bool true) fun b hb => (hnw b (.inl hb))
              have hOB1 := hOB0.far (b := wr.heap.size) (k := 1) (u := .bool true) fun b hb => (hnw b (.inr hb))
              have hB1 := hB0.setCell (p := ⟨wr.heap.size, 1, none⟩) (by show wc.heap.size ≤ wr.heap.size; omega) (.bool true)
              obtain ⟨Wx, hWx⟩ : ∃ Wx, Wx = w7.setCell ⟨wr.heap.size, 1, none⟩ (.bool true) := ⟨_, rfl⟩
              have hsx0 : wr.heap.size < Wx.heap.size := by rw [hWx]; simpa [World.setCell] using hsz0
              rw [← hWx] at kA1 kB1 ko1 kv1 hOA1 hOB1 hB1
              have kv1' : Bk Wx wr.heap.size #[.int .i64 0, .bool true] 54 := kv1
              have HX := Lib.hid (And.intro kA1 (And.intro kB1 (And.intro ko1 (And.intro kv1' (And.intro hOA1 (And.intro hOB1 (And.intro hB1 hsx0)))))))
              have HWX := Lib.hid hWx
              obtain ⟨z1, y1⟩ := kv0.at_ 1 (x := .bool false) rfl
              clear kA1 kB1 ko1 kv1 kv1' hOA1 hOB1 hB1 hWx kA0 kB0 ko0 kv0 hOA0 hOB0 hB0 hsx0
              go_upto_region 17 with (fail)
              rw [← HWX.out]
              clear z1 y1
              cases hcd : canMv ⟨c1, [code]⟩ M ⟨0, true⟩
              · have HCD := Lib.hid hcd
                clear hcd
                obtain ⟨kAx, kBx, kox, kvx, hOAx, hOBx, hBx, hsx⟩ := HX.out
                obtain ⟨v0, -⟩ := kvx.at_ 0 (x := .int .i64 0) rfl
                obtain ⟨v1, -⟩ := kvx.at_ 1 (x := .bool true) rfl
                obtain ⟨o0, -⟩ := kox.at_ 0 (x := .int .i64 c1) rfl
                obtain ⟨o1, -⟩ := kox.at_ 1 (x := .slice (some ⟨g0, 0, none⟩) 1 1) rfl
                obtain ⟨a0, -⟩ := kAx.at_ 0 (x := .slice A6 M.mem.length c6) rfl
                obtain ⟨a1, -⟩ := kAx.at_ 1 (x := .slice B6 M.ths.length d6) rfl
                have hD := (impl_DoMove _ _ _ ⟨c1, [code]⟩ M ⟨0, true⟩ Wx (HR1c.out.below hBx) hOAx.rd (by omega))
                rw [HCD.out] at hD
                have HD := Lib.hid hD
                clear hD
                clear kAx kBx kox kvx hOAx hOBx hBx
                go_wp2_with fail
                refine HD.out.mono ?_
                rintro e w8 ⟨mv8, tv8, bs8, rfl, ho8, hlo8, hb8⟩
                obtain ⟨A8, c8, B8, d8, rfl, rfl⟩ := ho8.slices
                obtain ⟨kAx, kBx, kox, kvx, hOAx, hOBx, hBx, hsx⟩ := HX.out
                obtain ⟨M8, hM8⟩ : ∃ M8, doF ⟨c1, [code]⟩ M ⟨0, true⟩ = M8 := ⟨_, rfl⟩
                rw [hM8] at ho8 ⊢
                have HM8 := Lib.hid hM8
                clear hM8
                have hN := (Below.refl w8.heap.size w8).alloc (Nat.le_refl _) (.cells #[.slice A8 M8.mem.length c8, .slice B8 M8.ths.length d8] 41)
                have kA8 := (kAx.below hb8 kAx.lt).alloc (.cells #[.slice A8 M8.mem.length c8, .slice B8 M8.ths.length d8] 41)
                have kB8 := (kBx.below hb8 kBx.lt).alloc (.cells #[.slice A8 M8.mem.length c8, .slice B8 M8.ths.length d8] 41)
                have ko8 := (kox.below hb8 kox.lt).alloc (.cells #[.slice A8 M8.mem.length c8, .slice B8 M8.ths.length d8] 41)
                have kv8 := (kvx.below hb8 kvx.lt).alloc (.cells #[.slice A8 M8.mem.length c8, .slice B8 M8.ths.length d8] 41)
                have hOA8 := (hOAx.below hb8).below hN
                have hOB8 := (hOBx.below hb8).below hN
                have hON8 := ho8.below hN
                have hB8 := (hBx.trans (hb8.mono hBx.size)).trans (hN.mono (hBx.trans (hb8.mono hBx.size)).size)
                have hs8 := hb8.size
                have hfN : ∀ b ∈ bs8, b ≠ w4.heap.size ∧ b ≠ w5.heap.size := fun b hb => by have := hlo8 b hb; omega
                have HF8 := Lib.hid (And.intro hOA8 (And.intro hOB8 (And.intro hON8 (And.intro hB8 (And.intro kA8 (And.intro kB8 (And.intro ko8 kv8)))))))
                clear kAx kBx kox kvx hOAx hOBx hBx ho8 hlo8 hb8 hN hOA8 hOB8 hON8 hB8 v0 v1 o0 o1 a0 a1
                clear kA8 kB8 ko8 kv8
                go_wp2_with fail
                obtain ⟨hOA8, hOB8, hON8, hB8, kA8, kB8, ko8, kv8⟩ := HF8.out
                exact ⟨⟨k + 1, by omega, by go_num, ⟨M, t, _, _, _, _, bsA, bsB, kA8, kB8, hOA8, hOB8, HQ, hfA, hfB⟩, ko8, hB8⟩, by simp [intOf]; omega⟩
              · have HCD := Lib.hid hcd
                clear hcd
                obtain ⟨kAx, kBx, kox, kvx, hOAx, hOBx, hBx, hsx⟩ := HX.out
                obtain ⟨v0, -⟩ := kvx.at_ 0 (x := .int .i64 0) rfl
                obtain ⟨v1, -⟩ := kvx.at_ 1 (x := .bool true) rfl
                obtain ⟨o0, -⟩ := kox.at_ 0 (x := .int .i64 c1) rfl
                obtain ⟨o1, -⟩ := kox.at_ 1 (x := .slice (some ⟨g0, 0, none⟩) 1 1) rfl
                obtain ⟨a0, -⟩ := kAx.at_ 0 (x := .slice A6 M.mem.length c6) rfl
                obtain ⟨a1, -⟩ := kAx.at_ 1 (x := .slice B6 M.ths.length d6) rfl
                have hD := (impl_DoMove _ _ _ ⟨c1, [code]⟩ M ⟨0, true⟩ Wx (HR1c.out.below hBx) hOAx.rd (by omega))
                rw [HCD.out] at hD
                have HD := Lib.hid hD
                clear hD
                clear kAx kBx kox kvx hOAx hOBx hBx
                go_wp2_with fail
                refine HD.out.mono ?_
                rintro e w8 ⟨mv8, tv8, bs8, rfl, ho8, hlo8, hb8⟩
                obtain ⟨A8, c8, B8, d8, rfl, rfl⟩ := ho8.slices
                obtain ⟨kAx, kBx, kox, kvx, hOAx, hOBx, hBx, hsx⟩ := HX.out
                obtain ⟨M8, hM8⟩ : ∃ M8, doF ⟨c1, [code]⟩ M ⟨0, true⟩ = M8 := ⟨_, rfl⟩
                rw [hM8] at ho8 ⊢
                have HM8 := Lib.hid hM8
                clear hM8
                have hN := (Below.refl w8.heap.size w8).alloc (Nat.le_refl _) (.cells #[.slice A8 M8.mem.length c8, .slice B8 M8.ths.length d8] 41)
                have kA8 := (kAx.below hb8 kAx.lt).alloc (.cells #[.slice A8 M8.mem.length c8, .slice B8 M8.ths.length d8] 41)
                have kB8 := (kBx.below hb8 kBx.lt).alloc (.cells #[.slice A8 M8.mem.length c8, .slice B8 M8.ths.length d8] 41)
                have ko8 := (kox.below hb8 kox.lt).alloc (.cells #[.slice A8 M8.mem.length c8, .slice B8 M8.ths.length d8] 41)
                have kv8 := (kvx.below hb8 kvx.lt).alloc (.cells #[.slice A8 M8.mem.length c8, .slice B8 M8.ths.length d8] 41)
                have hOA8 := (hOAx.below hb8).below hN
                have hOB8 := (hOBx.below hb8).below hN
                have hON8 := ho8.below hN
                have hB8 := (hBx.trans (hb8.mono hBx.size)).trans (hN.mono (hBx.trans (hb8.mono hBx.size)).size)
                have hs8 := hb8.size
                have hfN : ∀ b ∈ bs8, b ≠ w4.heap.size ∧ b ≠ w5.heap.size := fun b hb => by have := hlo8 b hb; omega
                have HF8 := Lib.hid (And.intro hOA8 (And.intro hOB8 (And.intro hON8 (And.intro hB8 (And.intro kA8 (And.intro kB8 (And.intro ko8 kv8)))))))
                clear kAx kBx kox kvx hOAx hOBx hBx ho8 hlo8 hb8 hN hOA8 hOB8 hON8 hB8 v0 v1 o0 o1 a0 a1
                obtain ⟨va, fa⟩ := kA8.at_ 0 (x := .slice A6 M.mem.length c6) rfl
                obtain ⟨vb, fb⟩ := kA8.at_ 1 (x := .slice B6 M.ths.length d6) rfl
                obtain ⟨hOA8, hOB8, hON8, hB8, -, -, -, -⟩ := HF8.out
                have S0 : Value := .slice A8 M8.mem.length c8
                have kA9 := (kA8.set_ 0 (.slice A8 M8.mem.length c8)).set_ 1 (.slice B8 M8.ths.length d8)
                have kB9 := (kB8.far (p := ⟨w4.heap.size, 0, none⟩) (by show w5.heap.size ≠ w4.heap.size; omega) (.slice A8 M8.mem.length c8)).far (p := ⟨w4.heap.size, 1, none⟩) (by show w5.heap.size ≠ w4.heap.size; omega) (.slice B8 M8.ths.length d8)
                have ko9 := (ko8.far (p := ⟨w4.heap.size, 0, none⟩) (by show g1 ≠ w4.heap.size; omega) (.slice A8 M8.mem.length c8)).far (p := ⟨w4.heap.size, 1, none⟩) (by show g1 ≠ w4.heap.size; omega) (.slice B8 M8.ths.length d8)
                have kv9 := (kv8.far (p := ⟨w4.heap.size, 0, none⟩) (by show wr.heap.size ≠ w4.heap.size; omega) (.slice A8 M8.mem.length c8)).far (p := ⟨w4.heap.size, 1, none⟩) (by show wr.heap.size ≠ w4.heap.size; omega) (.slice B8 M8.ths.length d8)
                have hON9 := (hON8.far (b := w4.heap.size) (k := 0) (u := .slice A8 M8.mem.length c8) fun b hb => (hfN b hb).1).far (b := w4.heap.size) (k := 1) (u := .slice B8 M8.ths.length d8) fun b hb => (hfN b hb).1
                have hOB9 := (hOB8.far (b := w4.heap.size) (k := 0) (u := .slice A8 M8.mem.length c8) fun b hb => (hfB b hb).1).far (b := w4.heap.size) (k := 1) (u := .slice B8 M8.ths.length d8) fun b hb => (hfB b hb).1
                have hB9 := (hB8.setCell (p := ⟨w4.heap.size, 0, none⟩) (by show wc.heap.size ≤ w4.heap.size; omega) (.slice A8 M8.mem.length c8)).setCell (p := ⟨w4.heap.size, 1, none⟩) (by show wc.heap.size ≤ w4.heap.size; omega) (.slice B8 M8.ths.length d8)
                obtain ⟨W9, hW9⟩ : ∃ W9, W9 = ((w8.alloc (.cells #[.slice A8 M8.mem.length c8, .slice B8 M8.ths.length d8] 41)).setCell ⟨w4.heap.size, 0, none⟩ (.slice A8 M8.mem.length c8)).setCell ⟨w4.heap.size, 1, none⟩ (.slice B8 M8.ths.length d8) := ⟨_, rfl⟩
                rw [← hW9] at kA9 kB9 ko9 kv9 hON9 hOB9 hB9
                obtain ⟨vd, -⟩ := kv9.at_ 1 (x := .bool true) rfl
                have HW9 := Lib.hid hW9
                clear hOA8 hOB8 hON8 hB8 kA8 kB8 ko8 kv8 hW9 S0
                have h8 : M8 = drainF M 0 t := by
                  rw [← HM8.out]
                  unfold doF
                  rw [HCD.out, if_pos rfl]
                  exact doAt_eq (k := 0) (d := true) HQ.out.2 rfl
                have hfl : 0 < t.f.length := by
                  obtain ⟨k', t', code', e1, e2, e3, e4, e5⟩ := can_parts HCD.out
                  have ek : k' = 0 := by simp only at e1; omega
                  subst ek
                  obtain rfl : t' = t := Option.some.inj (e3.symm.trans HQ.out.2)
                  simpa [canT, canDr] using e5
                obtain ⟨e1, e2, e3, e4, e5⟩ := daM_step (p := ⟨c1, [code]⟩) (code := code) HQ.out.1 HQ.out.2 rfl hfl
                have hok8 : machOk ⟨c1, [code]⟩ M8 = true := by rw [h8, ← e5]; exact doAt_ok e4
                have hth8 : M8.ths[0]? = some (drainT M.mem t) := by rw [h8]; exact e2
                have hda8 : daM M8 0 (drainT M.mem t) = daM M 0 t := by rw [h8]; exact e1
                have hokB : machOk ⟨c1, [code]⟩ (daM M 0 t) = true := daM_ok HQ.out.1 HQ.out.2 rfl
                have hthB : (daM M 0 t).ths[0]? = some (noBuf t) := daM_at HQ.out.2
                have hl8 : ((M8.ths.length : Int) == 0) = false := by rw [beq_eq_false_iff_ne]; have := (List.getElem?_eq_some_iff.1 hth8).1; omega
                have hlB : (((daM M 0 t).ths.length : Int) == 0) = false := by rw [beq_eq_false_iff_ne]; have := (List.getElem?_eq_some_iff.1 hthB).1; omega
                have hl8' : (0 : Int) < (M8.ths.length : Nat) := by have := (List.getElem?_eq_some_iff.1 hth8).1; omega
                have hlB' : (0 : Int) < ((daM M 0 t).ths.length : Nat) := by have := (List.getElem?_eq_some_iff.1 hthB).1; omega
                clear h8 e1 e2 e3 e4 e5 hfl
                obtain ⟨pA1, pA2, pA3, bA, oA, dA, Ax, cx, -, hteA, -, -, hbA, -, -, -, -, -, -, -, -, -, -, hElA⟩ := mach_open (p := ⟨c1, [code]⟩) (HR1c.out.below hB9) hON9.rd hok8
                obtain ⟨pB1, pB2, pB3, bB, oB, dB, Ay, cy, -, hteB, -, -, hbB, -, -, -, -, -, -, -, -, -, -, hElB⟩ := mach_open (p := ⟨c1, [code]⟩) (HR1c.out.below hB9) hOB9.rd hokB
                injection hteA with hteA1 _ hteA3
                injection hteB with hteB1 _ hteB3
                subst hteA1 hteA3 hteB1 hteB3
                obtain ⟨uA, cdA, cvA, avA, fvA, EA⟩ := hElA W9 (Below.refl _ _) 0 (List.getElem?_eq_some_iff.1 hth8).1
                obtain ⟨uB, cdB, cvB, avB, fvB, EB⟩ := hElB W9 (Below.refl _ _) 0 (List.getElem?_eq_some_iff.1 hthB).1
                have eA := Option.some.inj (EA.well.ht.symm.trans hth8)
                subst uA
                have eB := Option.some.inj (EB.well.ht.symm.trans hthB)
                subst uB
                obtain ⟨AvA, daA, rfl, -⟩ := id EA.ra
                obtain ⟨AvB, daB, rfl, -⟩ := id EB.ra
                have HSM := Lib.hid fun q : Past W9 => lawSame (.slice AvA t.v.length daA) (.slice AvB t.v.length daB) t.v q.v (EA.ra.below q.hb) (EB.ra.below q.hb)
                have Q0 := Past.cell kA9.lt (kA9.at_ 1 (x := .slice (some ⟨bA, oA, none⟩) M8.ths.length d8) rfl).1
                have Q1 := Past.cell kB9.lt (kB9.at_ 1 (x := .slice (some ⟨bB, oB, none⟩) (daM M 0 t).ths.length d7) rfl).1
                have x1 := EA.c1
                have x2 := EA.c2
                have y1 := EB.c1
                have y2 := EB.c2
                simp only [Nat.zero_mul, Nat.add_zero] at x1 x2 y1 y2
                have Q2 : ∀ q : Past W9, q.v.cell? ⟨bA, oA, none⟩ = some (.int .i64 t.pc) := Past.cell hbA x1
                have Q3 : ∀ q : Past W9, q.v.cell? ⟨bA, oA + 1, none⟩ = some (.slice AvA t.v.length daA) := Past.cell hbA x2
                have Q4 : ∀ q : Past W9, q.v.cell? ⟨bB, oB, none⟩ = some (.int .i64 t.pc) := Past.cell hbB y1
                have Q5 : ∀ q : Past W9, q.v.cell? ⟨bB, oB + 1, none⟩ = some (.slice AvB t.v.length daB) := Past.cell hbB y2
                have HE9 := Lib.hid (And.intro hON9 (And.intro hOB9 (And.intro kA9 (And.intro kB9 (And.intro ko9 (And.intro hB9 (And.intro hda8 (And.intro hok8 hth8))))))))
                clear hON9 hOB9 kA9 kB9 ko9 kv9 hB9 hda8 hok8 hth8 hokB hthB EA EB hElA hElB x1 x2 y1 y2
                go_upto_region 20 with (fail)
                rw [← HW9.out]
                go_wp2_with fail
                refine wp_region_past (by kernel_rfl) (by kernel_rfl) ?_
                repeat (go_big_quiet_step (first | (go_at_call 40; exact Calls.past_of (HSM.out _))))
                refine wpQuiet_nil ?_
                intro _ hw'
                obtain ⟨pq, rfl⟩ := hw'
                clear Q0 Q1 Q2 Q3 Q4 Q5
                go_wp2_with fail
                obtain ⟨hON9, hOB9, kA9, kB9, ko9, hB9, hda8, hok8, hth8⟩ := HE9.out
                exact ⟨⟨k + 1, by omega, by go_num, ⟨M8, drainT M.mem t, _, _, _, _, bs8, bsB, Bk.below kA9 pq.hb kA9.lt, Bk.below kB9 pq.hb kB9.lt, hON9.below pq.hb, by rw [hda8]; exact hOB9.below pq.hb, Lib.hid ⟨hok8, hth8⟩, hfN, hfB⟩, Bk.below ko9 pq.hb ko9.lt, hB9.trans (pq.hb.mono hB9.size)⟩, by simp [intOf]; omega⟩
            · rw [hcm] at hCM
              have HCM := Lib.hid hCM
              have HCD := Lib.hid hcm
              clear hCM hcm
              go_wp2_with fail
              refine HCM.out.mono ?_
              rintro e Wx ⟨rfl, hb7⟩
              have HX := Lib.hid (And.intro (kAa.below hb7 kAa.lt) (And.intro (kBa.below hb7 kBa.lt) (And.intro (koa.below hb7 koa.lt) (And.intro (kv.below hb7 kv.lt) (And.intro (hOAa.below hb7) (And.intro (hOBa.below hb7) (And.intro (HBa.out.trans (hb7.mono HBa.out.size)) (Nat.lt_of_lt_of_le hsz0 hb7.size))))))))
              clear v0 f0 v1 f1 o0 o1 a0 a1 hb7
              obtain ⟨kAx, kBx, kox, kvx, hOAx, hOBx, hBx, hsx⟩ := HX.out
              obtain ⟨v0, -⟩ := kvx.at_ 0 (x := .int .i64 0) rfl
              obtain ⟨v1, -⟩ := kvx.at_ 1 (x := .bool false) rfl
              obtain ⟨o0, -⟩ := kox.at_ 0 (x := .int .i64 c1) rfl
              obtain ⟨o1, -⟩ := kox.at_ 1 (x := .slice (some ⟨g0, 0, none⟩) 1 1) rfl
              obtain ⟨a0, -⟩ := kAx.at_ 0 (x := .slice A6 M.mem.length c6) rfl
              obtain ⟨a1, -⟩ := kAx.at_ 1 (x := .slice B6 M.ths.length d6) rfl
              have hD := (impl_DoMove _ _ _ ⟨c1, [code]⟩ M ⟨0, false⟩ Wx (HR1c.out.below hBx) hOAx.rd (by omega))
              rw [HCD.out] at hD
              have HD := Lib.hid hD
              clear hD
              clear kAx kBx kox kvx hOAx hOBx hBx
              go_wp2_with fail
              refine HD.out.mono ?_
              rintro e w8 ⟨mv8, tv8, bs8, rfl, ho8, hlo8, hb8⟩
              obtain ⟨A8, c8, B8, d8, rfl, rfl⟩ := ho8.slices
              obtain ⟨kAx, kBx, kox, kvx, hOAx, hOBx, hBx, hsx⟩ := HX.out
              obtain ⟨M8, hM8⟩ : ∃ M8, doF ⟨c1, [code]⟩ M ⟨0, false⟩ = M8 := ⟨_, rfl⟩
              rw [hM8] at ho8 ⊢
              have HM8 := Lib.hid hM8
              clear hM8
              have hN := (Below.refl w8.heap.size w8).alloc (Nat.le_refl _) (.cells #[.slice A8 M8.mem.length c8, .slice B8 M8.ths.length d8] 41)
              have kA8 := (kAx.below hb8 kAx.lt).alloc (.cells #[.slice A8 M8.mem.length c8, .slice B8 M8.ths.length d8] 41)
              have kB8 := (kBx.below hb8 kBx.lt).alloc (.cells #[.slice A8 M8.mem.length c8, .slice B8 M8.ths.length d8] 41)
              have ko8 := (kox.below hb8 kox.lt).alloc (.cells #[.slice A8 M8.mem.length c8, .slice B8 M8.ths.length d8] 41)
              have kv8 := (kvx.below hb8 kvx.lt).alloc (.cells #[.slice A8 M8.mem.length c8, .slice B8 M8.ths.length d8] 41)
              have hOA8 := (hOAx.below hb8).below hN
              have hOB8 := (hOBx.below hb8).below hN
              have hON8 := ho8.below hN
              have hB8 := (hBx.trans (hb8.mono hBx.size)).trans (hN.mono (hBx.trans (hb8.mono hBx.size)).size)
              have hs8 := hb8.size
              have hfN : ∀ b ∈ bs8, b ≠ w4.heap.size ∧ b ≠ w5.heap.size := fun b hb => by have := hlo8 b hb; omega
              have HF8 := Lib.hid (And.intro hOA8 (And.intro hOB8 (And.intro hON8 (And.intro hB8 (And.intro kA8 (And.intro kB8 (And.intro ko8 kv8)))))))
              clear kAx kBx kox kvx hOAx hOBx hBx ho8 hlo8 hb8 hN hOA8 hOB8 hON8 hB8 v0 v1 o0 o1 a0 a1
              obtain ⟨va, fa⟩ := kA8.at_ 0 (x := .slice A6 M.mem.length c6) rfl
              obtain ⟨vb, fb⟩ := kA8.at_ 1 (x := .slice B6 M.ths.length d6) rfl
              obtain ⟨hOA8, hOB8, hON8, hB8, -, -, -, -⟩ := HF8.out
              have S0 : Value := .slice A8 M8.mem.length c8
              have kA9 := (kA8.set_ 0 (.slice A8 M8.mem.length c8)).set_ 1 (.slice B8 M8.ths.length d8)
              have kB9 := (kB8.far (p := ⟨w4.heap.size, 0, none⟩) (by show w5.heap.size ≠ w4.heap.size; omega) (.slice A8 M8.mem.length c8)).far (p := ⟨w4.heap.size, 1, none⟩) (by show w5.heap.size ≠ w4.heap.size; omega) (.slice B8 M8.ths.length d8)
              have ko9 := (ko8.far (p := ⟨w4.heap.size, 0, none⟩) (by show g1 ≠ w4.heap.size; omega) (.slice A8 M8.mem.length c8)).far (p := ⟨w4.heap.size, 1, none⟩) (by show g1 ≠ w4.heap.size; omega) (.slice B8 M8.ths.length d8)
              have kv9 := (kv8.far (p := ⟨w4.heap.size, 0, none⟩) (by show wr.heap.size ≠ w4.heap.size; omega) (.slice A8 M8.mem.length c8)).far (p := ⟨w4.heap.size, 1, none⟩) (by show wr.heap.size ≠ w4.heap.size; omega) (.slice B8 M8.ths.length d8)
              have hON9 := (hON8.far (b := w4.heap.size) (k := 0) (u := .slice A8 M8.mem.length c8) fun b hb => (hfN b hb).1).far (b := w4.heap.size) (k := 1) (u := .slice B8 M8.ths.length d8) fun b hb => (hfN b hb).1
              have hOB9 := (hOB8.far (b := w4.heap.size) (k := 0) (u := .slice A8 M8.mem.length c8) fun b hb => (hfB b hb).1).far (b := w4.heap.size) (k := 1) (u := .slice B8 M8.ths.length d8) fun b hb => (hfB b hb).1
              have hB9 := (hB8.setCell (p := ⟨w4.heap.size, 0, none⟩) (by show wc.heap.size ≤ w4.heap.size; omega) (.slice A8 M8.mem.length c8)).setCell (p := ⟨w4.heap.size, 1, none⟩) (by show wc.heap.size ≤ w4.heap.size; omega) (.slice B8 M8.ths.length d8)
              obtain ⟨W9, hW9⟩ : ∃ W9, W9 = ((w8.alloc (.cells #[.slice A8 M8.mem.length c8, .slice B8 M8.ths.length d8] 41)).setCell ⟨w4.heap.size, 0, none⟩ (.slice A8 M8.mem.length c8)).setCell ⟨w4.heap.size, 1, none⟩ (.slice B8 M8.ths.length d8) := ⟨_, rfl⟩
              rw [← hW9] at kA9 kB9 ko9 kv9 hON9 hOB9 hB9
              obtain ⟨vd, -⟩ := kv9.at_ 1 (x := .bool false) rfl
              have HW9 := Lib.hid hW9
              clear hOA8 hOB8 hON8 hB8 kA8 kB8 ko8 kv8 hW9 S0
              have h8 : M8 = execF M 0 t code := by
                rw [← HM8.out]
                unfold doF
                rw [HCD.out, if_pos rfl]
                exact doAt_eq (k := 0) (d := false) HQ.out.2 rfl
              have hcx : canEx t code = true := by
                obtain ⟨k', t', code', e1, e2, e3, e4, e5⟩ := can_parts HCD.out
                have ek : k' = 0 := by simp only at e1; omega
                subst ek
                obtain rfl : t' = t := Option.some.inj (e3.symm.trans HQ.out.2)
                obtain rfl : code' = code := (Option.some.inj e4).symm
                simpa [canT] using e5
              have hsim := sim_exec (p := ⟨c1, [code]⟩) HQ.out.1 HQ.out.2 (code := code) rfl hcx
              have hne : t.pc ≠ code.length := by have := (exec_of (p := ⟨c1, [code]⟩) HQ.out.1 HQ.out.2 (code := code) rfl hcx).lt; omega
              have hok8 : machOk ⟨c1, [code]⟩ M8 = true := by
                have := doAt_ok HCD.out
                have e8 : doAt ⟨c1, [code]⟩ M ⟨0, false⟩ = execF M 0 t code := doAt_eq (p := ⟨c1, [code]⟩) (k := 0) (d := false) HQ.out.2 (code := code) rfl
                rw [e8] at this
                rw [h8]
                exact this
              have hth8 : M8.ths[0]? = some (effT M.mem (stepT t) (insAt t code)) := by rw [h8]; exact List.getElem?_set_self (List.getElem?_eq_some_iff.1 HQ.out.2).1
              have hokb : machOk ⟨c1, [code]⟩ (daM M 0 t) = true := daM_ok HQ.out.1 HQ.out.2 rfl
              have hthb : (daM M 0 t).ths[0]? = some (noBuf t) := daM_at HQ.out.2
              have hsb : spB ⟨c1, [code]⟩ (daM M 0 t) 0 = true ∧ spF ⟨c1, [code]⟩ (daM M 0 t) 0 = daM M8 0 (effT M.mem (stepT t) (insAt t code)) := by
                have hlb := (List.getElem?_eq_some_iff.1 hthb).1
                have h1 : spB ⟨c1, [code]⟩ (daM M 0 t) 0 = true := by
                  unfold spB
                  rw [hokb, inB_of (by omega)]
                  simp [endT, List.getD_eq_getElem?_getD, hthb, noBuf]
                  omega
                refine ⟨h1, ?_⟩
                rw [h8, hsim]
                unfold spF
                rw [h1]
                simp [List.getD_eq_getElem?_getD, hthb]
              have hP := impl_StepPlain _ _ _ ⟨c1, [code]⟩ (daM M 0 t) 0 W9 (HR1c.out.below hB9) hOB9.rd (by have := machOk_tot hokb; omega)
              rw [hsb.1, hsb.2] at hP
              obtain ⟨t8, ht8⟩ : ∃ t8, effT M.mem (stepT t) (insAt t code) = t8 := ⟨_, rfl⟩
              rw [ht8] at hP hth8
              have HP := Lib.hid hP
              obtain ⟨o0, -⟩ := ko9.at_ 0 (x := .int .i64 c1) rfl
              obtain ⟨o1, -⟩ := ko9.at_ 1 (x := .slice (some ⟨g0, 0, none⟩) 1 1) rfl
              obtain ⟨b0, -⟩ := kB9.at_ 0 (x := .slice A7 (daM M 0 t).mem.length c7) rfl
              obtain ⟨b1, -⟩ := kB9.at_ 1 (x := .slice B7 (daM M 0 t).ths.length d7) rfl
              have HK9 := Lib.hid (And.intro hON9 (And.intro kA9 (And.intro kB9 (And.intro ko9 hB9))))
              have HOK8 := Lib.hid (And.intro hok8 hth8)
              have hs9 : w8.heap.size + 1 = W9.heap.size := by rw [HW9.out]; simp
              clear hP hsb hsim hne hcx h8 hokb hthb hON9 hOB9 kA9 kB9 ko9 kv9 hB9 hok8 hth8 ht8
              go_upto_region 20 with (fail)
              rw [← HW9.out]
              go_wp2_with fail
              refine HP.out.mono ?_
              rintro e w10 ⟨mv10, tv10, bs10, rfl, ho10, hlo10, hb10⟩
              obtain ⟨A10, c10, B10, d10, rfl, rfl⟩ := ho10.slices
              obtain ⟨MC, hMC⟩ : ∃ MC, daM M8 0 t8 = MC := ⟨_, rfl⟩
              rw [hMC] at ho10 ⊢
              have HMC := Lib.hid hMC
              clear hMC
              obtain ⟨hON9, kA9, kB9, ko9, hB9⟩ := HK9.out
              have hC := (Below.refl w10.heap.size w10).alloc (Nat.le_refl _) (.cells #[.slice A10 MC.mem.length c10, .slice B10 MC.ths.length d10] 41)
              have kA10 := (kA9.below hb10 kA9.lt).alloc (.cells #[.slice A10 MC.mem.length c10, .slice B10 MC.ths.length d10] 41)
              have kB10 := (kB9.below hb10 kB9.lt).alloc (.cells #[.slice A10 MC.mem.length c10, .slice B10 MC.ths.length d10] 41)
              have ko10 := (ko9.below hb10 ko9.lt).alloc (.cells #[.slice A10 MC.mem.length c10, .slice B10 MC.ths.length d10] 41)
              have hON10 := (hON9.below hb10).below hC
              have hOC10 := ho10.below hC
              have hB10 := (hB9.trans (hb10.mono hB9.size)).trans (hC.mono (hB9.trans (hb10.mono hB9.size)).size)
              have hfC : ∀ b ∈ bs10, b ≠ w4.heap.size ∧ b ≠ w5.heap.size := fun b hb => by have := hlo10 b hb; omega
              obtain ⟨va, fa⟩ := kB10.at_ 0 (x := .slice A7 (daM M 0 t).mem.length c7) rfl
              obtain ⟨vb, fb⟩ := kB10.at_ 1 (x := .slice B7 (daM M 0 t).ths.length d7) rfl
              have kB11 := (kB10.set_ 0 (.slice A10 MC.mem.length c10)).set_ 1 (.slice B10 MC.ths.length d10)
              have kA11 := (kA10.far (p := ⟨w5.heap.size, 0, none⟩) (by show w4.heap.size ≠ w5.heap.size; omega) (.slice A10 MC.mem.length c10)).far (p := ⟨w5.heap.size, 1, none⟩) (by show w4.heap.size ≠ w5.heap.size; omega) (.slice B10 MC.ths.length d10)
              have ko11 := (ko10.far (p := ⟨w5.heap.size, 0, none⟩) (by show g1 ≠ w5.heap.size; omega) (.slice A10 MC.mem.length c10)).far (p := ⟨w5.heap.size, 1, none⟩) (by show g1 ≠ w5.heap.size; omega) (.slice B10 MC.ths.length d10)
              have hON11 := (hON10.far (b := w5.heap.size) (k := 0) (u := .slice A10 MC.mem.length c10) fun b hb => (hfN b hb).2).far (b := w5.heap.size) (k := 1) (u := .slice B10 MC.ths.length d10) fun b hb => (hfN b hb).2
              have hOC11 := (hOC10.far (b := w5.heap.size) (k := 0) (u := .slice A10 MC.mem.length c10) fun b hb => (hfC b hb).2).far (b := w5.heap.size) (k := 1) (u := .slice B10 MC.ths.length d10) fun b hb => (hfC b hb).2
              have hB11 := (hB10.setCell (p := ⟨w5.heap.size, 0, none⟩) (by show wc.heap.size ≤ w5.heap.size; omega) (.slice A10 MC.mem.length c10)).setCell (p := ⟨w5.heap.size, 1, none⟩) (by show wc.heap.size ≤ w5.heap.size; omega) (.slice B10 MC.ths.length d10)
              obtain ⟨WE, hWE⟩ : ∃ WE, WE = ((w10.alloc (.cells #[.slice A10 MC.mem.length c10, .slice B10 MC.ths.length d10] 41)).setCell ⟨w5.heap.size, 0, none⟩ (.slice A10 MC.mem.length c10)).setCell ⟨w5.heap.size, 1, none⟩ (.slice B10 MC.ths.length d10) := ⟨_, rfl⟩
              rw [← hWE] at kA11 kB11 ko11 hON11 hOC11 hB11
              have HWE := Lib.hid hWE
              have hok8 := HOK8.out.1
              have hth8 := HOK8.out.2
              have hokB : machOk ⟨c1, [code]⟩ MC = true := by rw [← HMC.out]; exact daM_ok hok8 hth8 rfl
              have hthB : MC.ths[0]? = some (noBuf t8) := by rw [← HMC.out]; exact daM_at hth8
              have hl8 : ((M8.ths.length : Int) == 0) = false := by rw [beq_eq_false_iff_ne]; have := (List.getElem?_eq_some_iff.1 hth8).1; omega
              have hlB : ((MC.ths.length : Int) == 0) = false := by rw [beq_eq_false_iff_ne]; have := (List.getElem?_eq_some_iff.1 hthB).1; omega
              have hl8' : (0 : Int) < (M8.ths.length : Nat) := by have := (List.getElem?_eq_some_iff.1 hth8).1; omega
              have hlB' : (0 : Int) < (MC.ths.length : Nat) := by have := (List.getElem?_eq_some_iff.1 hthB).1; omega
              clear hWE hON9 kA9 kB9 ko9 hB9 hC kA10 kB10 ko10 hON10 hOC10 hB10 ho10 hlo10 hb10 o0 o1 b0 b1
              obtain ⟨pA1, pA2, pA3, bA, oA, dA, Ax, cx, -, hteA, -, -, hbA, -, -, -, -, -, -, -, -, -, -, hElA⟩ := mach_open (p := ⟨c1, [code]⟩) (HR1c.out.below hB11) hON11.rd hok8
              obtain ⟨pB1, pB2, pB3, bB, oB, dB, Ay, cy, -, hteB, -, -, hbB, -, -, -, -, -, -, -, -, -, -, hElB⟩ := mach_open (p := ⟨c1, [code]⟩) (HR1c.out.below hB11) hOC11.rd hokB
              injection hteA with hteA1 _ hteA3
              injection hteB with hteB1 _ hteB3
              subst hteA1 hteA3 hteB1 hteB3
              obtain ⟨uA, cdA, cvA, avA, fvA, EA⟩ := hElA WE (Below.refl _ _) 0 (List.getElem?_eq_some_iff.1 hth8).1
              obtain ⟨uB, cdB, cvB, avB, fvB, EB⟩ := hElB WE (Below.refl _ _) 0 (List.getElem?_eq_some_iff.1 hthB).1
              have eA := Option.some.inj (EA.well.ht.symm.trans hth8)
              subst uA
              have eB := Option.some.inj (EB.well.ht.symm.trans hthB)
              subst uB
              obtain ⟨AvA, daA, rfl, -⟩ := id EA.ra
              obtain ⟨AvB, daB, rfl, -⟩ := id EB.ra
              have HSM := Lib.hid fun q : Past WE => lawSame (.slice AvA t8.v.length daA) (.slice AvB t8.v.length daB) t8.v q.v (EA.ra.below q.hb) (EB.ra.below q.hb)
              have Q0 := Past.cell kA11.lt (kA11.at_ 1 (x := .slice (some ⟨bA, oA, none⟩) M8.ths.length d8) rfl).1
              have Q1 := Past.cell kB11.lt (kB11.at_ 1 (x := .slice (some ⟨bB, oB, none⟩) MC.ths.length d10) rfl).1
              have x1 := EA.c1
              have x2 := EA.c2
              have y1 := EB.c1
              have y2 := EB.c2
              simp only [Nat.zero_mul, Nat.add_zero] at x1 x2 y1 y2
              have Q2 : ∀ q : Past WE, q.v.cell? ⟨bA, oA, none⟩ = some (.int .i64 t8.pc) := Past.cell hbA x1
              have Q3 : ∀ q : Past WE, q.v.cell? ⟨bA, oA + 1, none⟩ = some (.slice AvA t8.v.length daA) := Past.cell hbA x2
              have Q4 : ∀ q : Past WE, q.v.cell? ⟨bB, oB, none⟩ = some (.int .i64 t8.pc) := Past.cell hbB y1
              have Q5 : ∀ q : Past WE, q.v.cell? ⟨bB, oB + 1, none⟩ = some (.slice AvB t8.v.length daB) := Past.cell hbB y2
              have HE9 := Lib.hid (And.intro hON11 (And.intro hOC11 (And.intro kA11 (And.intro kB11 (And.intro ko11 (And.intro hB11 (And.intro hok8 hth8)))))))
              clear hON11 hOC11 kA11 kB11 ko11 hB11 hok8 hth8 hokB hthB EA EB hElA hElB x1 x2 y1 y2
              go_wp2_with fail
              rw [← HWE.out]
              refine wp_region_past (by kernel_rfl) (by kernel_rfl) ?_
              repeat (go_big_quiet_step (first | (go_at_call 40; exact Calls.past_of (HSM.out _))))
              refine wpQuiet_nil ?_
              intro _ hw'
              obtain ⟨pq, rfl⟩ := hw'
              clear Q0 Q1 Q2 Q3 Q4 Q5
              go_wp2_with fail
              obtain ⟨hON11, hOC11, kA11, kB11, ko11, hB11, hok8, hth8⟩ := HE9.out
              exact ⟨⟨k + 1, by omega, by go_num, ⟨M8, t8, _, _, _, _, bs8, bs10, Bk.below kA11 pq.hb kA11.lt, Bk.below kB11 pq.hb kB11.lt, hON11.below pq.hb, by rw [HMC.out]; exact hOC11.below pq.hb, Lib.hid ⟨hok8, hth8⟩, hfN, hfC⟩, Bk.below ko11 pq.hb ko11.lt, hB11.trans (pq.hb.mono hB11.size)⟩, by simp [intOf]; omega⟩
        · obtain rfl : k = 60 := by omega
          go_wp2_with fail
          go_ret
          exact ⟨rfl, HBW.out.trans (hB.mono HBW.out.size)⟩
set_option maxRecDepth 100000 in
theorem lift_FnAlone (os : Os) (started : os.Started) (H : Type) (enc : TypeId × Value → H) :
    ReturnsInHanded {} Try.checked os 8 .any (Rows.fnAloneSpec.pre6 enc Try.prog Try.f8 Rows.fnAloneRow.domain false) (Rows.fnAloneSpec.post enc Try.prog Try.f8 false true false false) := by
  refine returnsInHanded_of_change (C := Try.checked) (by kernel_rfl) started (by kernel_rfl) Try.func8
    (ChangeSpec.witness6 (enc := enc) (C := Try.checked) false ⟨#[], #[.slice none 0 0], []⟩ 8 (by kernel_rfl) (by kernel_rfl) (by kernel_rfl) (by kernel_rfl)) ?_
  intro W base args ds gs before hval0 hW hcnd _
  have hval : ∀ (j : Nat) t v, Try.f8.params[j]? = some t → args[j]? = some v → Value.okWide Try.prog W .any base t v := hval0
  have hW' := hW
  obtain ⟨p, q, hA0, hV, rfl, hfz, hnd⟩ := hW
  have hA : DataW.TrodAll enc Try.prog W 0 (fun _ => true) true Try.f8.params.toList args.toList ds p := hA0
  rw [Try.params8] at hA hval
  obtain ⟨v0, vs0, d0, ds0, p0, q0, hargs, rfl, rfl, h0, r0⟩ := trodAll_cons hA
  obtain ⟨rfl, rfl, rfl⟩ := trodAll_nil r0
  obtain rfl : args = #[v0] := by cases args; simp_all
  obtain ⟨rfl, rfl⟩ := trodVars_none hV
  obtain ⟨A, n, c, rfl, hb, hnc, hc⟩ := read_bytes Try.underlying61 Try.underlying5 (by kernel_rfl) (hval 0 _ v0 rfl rfl) h0
  refine (walk_Alone A n c W hb hnc hc).mono fun e W' ⟨he, hb⟩ => ?_
  subst he
  exact ⟨_, rfl, post_law (by kernel_rfl) rfl rfl (by kernel_rfl) Try.underlying4 (of_decide_eq_true (by kernel_rfl)) hW' hb⟩
theorem FnAlone_holds : Rows.FnAloneSaid :=
  OpenClaim.holds_of_wide 8 Try.f8 rfl rfl rfl rfl rfl rfl rfl ⟨rfl, rfl, rfl, rfl, rfl⟩ rfl rfl rfl rfl rfl (by kernel_rfl) Try.func8 (by kernel_rfl)
    (of_decide_eq_true (by kernel_rfl)) (by unfold Func.isWrapper; first | (rw [if_pos (by decide +kernel)]; kernel_rfl) | (rw [if_neg (by decide +kernel)]; exact ⟨rfl, rfl⟩))
    (fun os started H enc _ => lift_FnAlone os started H enc)
#print axioms FnAlone_holds
end Go.Proofs.Ytiflooopfpcelaa
