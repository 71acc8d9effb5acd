/- FnCodes answers true at every code: the text of a drawn valid program's codes is read back; fences put in twice are as once. No condition. -/
import Derived.Test.YtgbgjlmkmlhefaaGreatDoorKB
import Derived.Test.YtgbgjlmkmlhefaaGreatDoorI9
import Derived.Test.YtgbgjlmkmlhefaaGreatDoorI7
import Derived.Test.YtgbgjlmkmlhefaaGreatDoorQ3
import Derived.Test.YtgbgjlmkmlhefaaGreatDoorLaidE
import Derived.Test.YtgbgjlmkmlhefaaGreatDoorLaidN
import Derived.BigQuiet
namespace Go.Proofs.YtgbgjlmkmlhefaaGreatDoor
set_option maxRecDepth 20000
set_option linter.unusedSimpArgs false
set_option linter.unusedVariables false
open Go.ChangeShapes Go.WideShapes Go.ChangeAt Go.RowKit
set_option linter.unusedVariables false
set_option maxHeartbeats 1600000 in
theorem sameCode (v u : Value) (xs : List Ins) (w : World) (h : Rd w v 4 xs.length (flc xs)) (h' : Rd w u 4 xs.length (flc xs)) :
    Calls Tryz.prog 10 #[v, u] w fun e w' => e = .returned (.bool true) ∧ Below w.heap.size w w' := by
  obtain ⟨A, c, rfl, -, hnc, hc, hr⟩ := h
  obtain ⟨A', c', rfl, -, hnc', hc', hr'⟩ := h'
  unfold maxLen at hc hc'
  go_enter Tryz.func10, Tryz.ntmps10
  go_wp2_with fail
  go_loopw [5] (fun i wr => ∃ k : Nat, k ≤ xs.length ∧ i = .int .i64 k ∧ Below w.heap.size w wr) (fun i _ => xs.length - (intOf i).toNat)
  case atStart => exact ⟨0, Nat.zero_le _, rfl, Below.refl _ _⟩
  case round =>
    obtain ⟨k, hk, rfl, hB⟩ := hrel
    by_cases hlt : k < xs.length
    · obtain ⟨b, o, rfl, hb, hcell⟩ := hr (by omega)
      obtain ⟨b', o', rfl, hb', hcell'⟩ := hr' (by omega)
      obtain ⟨x, hxk, hx0, hx1, hx2, hx3⟩ := ins_at (fun j u hu => (hB.cell (p := ⟨b, o + j, none⟩) hb).trans (hcell j u hu)) hlt
      obtain ⟨y, hyk, hy0, hy1, hy2, hy3⟩ := ins_at (k := k) (fun j u hu => (hB.cell (p := ⟨b', o' + j, none⟩) hb').trans (hcell' j u hu)) hlt
      obtain rfl : x = y := by have := hxk.out.symm.trans hyk.out; injection this
      have HB := Lib.hid hB
      clear hcell hcell' hr hr' hB
      go_wp2_with fail
      go_quiet (fail)
      go_wp2_with fail
      exact ⟨⟨k + 1, by omega, by go_num, HB.out.trans ⟨rfl, rfl, rfl, Nat.le_refl _, fun _ _ => rfl⟩⟩, by simp [intOf]; omega⟩
    · clear hr hr'
      go_wp2_with fail
      go_ret
      exact ⟨rfl, hB⟩
set_option maxHeartbeats 400000 in
theorem lawbigC (A : Option Addr) (n c : Nat) (w : World) (hnc : n ≤ c) (hc : c ≤ 9223372036854775807) :
    Calls Tryz.prog 5 #[.slice A n c] w fun e w' => e = .returned (.bool (decide ((1048576 : Int) < n))) ∧ w = w' := by
  go_enter Tryz.func5, Tryz.ntmps5
  go_wp2_with fail
  go_ret
  exact ⟨rfl, rfl⟩
theorem insOk_R {x : Ins} {cells size : Int} (h : insOk x cells size = true) : InsR x := by
  obtain ⟨-, -, h3, h4, h5, -⟩ := insOk_parts h
  have i3 := inB_true h3
  have i4 := inB_true h4
  have i5 := inB_true h5
  have i6 := insOk_n h
  unfold InsR Rng
  omega
theorem codeOk_partsC {c : Int} {xs : List Ins} (h : codeOkF c xs = true) : xs.length ≤ 16 ∧ ∀ x ∈ xs, InsR x := by
  unfold codeOkF at h
  rw [Bool.and_eq_true, decide_eq_true_eq, List.all_eq_true] at h
  exact ⟨h.1, fun x hx => insOk_R (h.2 x hx)⟩
theorem progOk_partsC {c : Int} {xss : List (List Ins)} (h : progOkF ⟨c, xss⟩ = true) : xss.length ≤ 3 ∧ ∀ xs ∈ xss, codeOkF c xs = true := by
  unfold progOkF at h
  simp only [Bool.and_eq_true, List.all_eq_true] at h
  have := inB_true h.1.2
  exact ⟨by omega, h.2⟩
set_option maxHeartbeats 8000000 in
theorem walk_Codes (A : Option Addr) (n c : Nat) (w : World) (h : Byt w A n) (hnc : n ≤ c) (hc : c ≤ 9223372036854775807) (hE : EnvP w) :
    Calls Tryz.prog 3 #[.slice A n c] w fun e w' => e = .returned (.bool true) ∧ Below w.heap.size w w' := by
  by_cases hn : (1048576 : Int) < n
  · go_enter Tryz.func3, Tryz.ntmps3
    go_wp2_with (go_at_call 5; refine (lawbigC _ _ _ _ hnc hc).mono ?_; rintro e w' ⟨rfl, rfl⟩)
    go_ret
    exact ⟨rfl, Below.refl _ _⟩
  · go_enter Tryz.func3, Tryz.ntmps3
    go_wp2_with (go_at_call 5; refine (lawbigC _ _ _ _ hnc hc).mono ?_; rintro e w' ⟨rfl, rfl⟩)
    refine (DrawProgOk A n c _ h hnc hc (by omega)).mono ?_
    rintro e w1 ⟨v1, c1, xss, rfl, hR, hb1⟩
    obtain ⟨vs, ⟨A1, d1, rfl, hvl, hnc1, hcm1, hr1⟩, hin⟩ := id hR
    unfold maxLen at hcm1
    have HR := Lib.hid hR
    have HI := Lib.hid hin
    have HE := Lib.hid hE
    obtain ⟨m, hm⟩ : ∃ m, xss.length = m := ⟨_, rfl⟩
    rw [hm] at hnc1 hr1 ⊢
    have HM := Lib.hid hm
    clear hR hin hE hvl hm
    have hb2 := (Below.refl _ w1).alloc (Nat.le_refl _) (.cells #[.int .i64 c1, .slice A1 m d1] 26)
    have k2 := Bk.new w1 #[.int .i64 c1, .slice A1 m d1] 26
    have hP := spec_ProgOk (.slice A1 xss.length d1) ⟨c1, xss⟩ _ (HR.out.below hb2)
    rw [HM.out] at hP
    go_wp2_with fail
    refine hP.mono ?_
    rintro e w3 ⟨rfl, hb3⟩
    have hB3 := hb2.trans (hb3.mono hb2.size)
    have k3 := k2.below hb3 k2.lt
    have HB3 := Lib.hid (hb1.trans (hB3.mono hb1.size))
    clear hP k2 hb2 hb3
    cases hok : progOkF ⟨c1, xss⟩
    · obtain ⟨hc0, hf0⟩ := k3.at_ 0 rfl
      obtain ⟨hc1, hf1⟩ := k3.at_ 1 rfl
      clear hok hr1
      go_wp2_with fail
      go_ret
      exact ⟨rfl, HB3.out⟩
    · have HOK := Lib.hid (progOk_partsC hok)
      clear hok
      have HB13 := Lib.hid hB3
      have hm3 : m ≤ 3 := by have := HOK.out.1; have := HM.out; omega
      clear hB3
      go_wp2_with fail
      go_loopw [4] (fun j wr => ∃ t : Nat, t ≤ m ∧ j = .int .i64 t ∧ Below w3.heap.size w3 wr ∧ Bk wr w1.heap.size #[.int .i64 c1, .slice A1 m d1] 26) (fun j _ => m - (intOf j).toNat)
      case atStart => exact ⟨0, Nat.zero_le _, rfl, Below.refl _ _, k3⟩
      case round =>
        obtain ⟨t, ht, rfl, hB, kr⟩ := hrel
        clear k3
        obtain ⟨hq0, hqf0⟩ := kr.at_ 0 rfl
        obtain ⟨hq1, hqf1⟩ := kr.at_ 1 rfl
        have HBr := Lib.hid (HB13.out.trans (hB.mono HB13.out.size))
        have HBw := Lib.hid hB
        have lr := kr.lt
        clear hB
        by_cases hlt : t < m
        · obtain ⟨b, o, rfl, hb, hcell⟩ := hr1 (by omega)
          have hxt : xss[t]? = some (xss[t]'(by have := HM.out; omega)) := List.getElem?_eq_getElem _
          generalize xss[t]'(by have := HM.out; omega) = xs at hxt
          obtain ⟨ct, hct, hrd⟩ := HI.out.at_ hxt
          have hx0 := (HBr.out.cell (p := ⟨b, o + t, none⟩) hb).trans (hcell t _ hct)
          have lb : b < wr.heap.size := Nat.lt_of_lt_of_le hb HBr.out.size
          have hrr := hrd.below HBr.out
          obtain ⟨At, dt, rfl, -, hnct, hcmt, -⟩ := id hrr
          unfold maxLen at hcmt
          have hOK := HOK.out.2 xs (List.mem_of_getElem? hxt)
          obtain ⟨hl16, hRx⟩ := codeOk_partsC hOK
          obtain ⟨hT1, hT2⟩ := code_text hOK
          have HRd := Lib.hid hrr
          have hEr : EnvP wr := (HE.out.below HB3.out (Nat.le_refl _)).below HBw.out (Nat.le_refl _)
          have hEt : EnvT wr := ⟨hEr.env.tab, hEr.names⟩
          have HT2 := Lib.hid hT2
          have HCT : Hid (Calls Tryz.prog 8 #[.slice At xs.length dt] wr fun e w' => e = .returned (.tuple #[str (ctext xs), .bool true]) ∧ Below wr.heap.size wr w') := Lib.hid (by
            have := impl_CodeText _ xs wr HRd.out hRx hEt
            unfold RetStrB at this
            rw [hT1] at this
            exact this)
          have htl : (ctext xs).length ≤ 1048576 := by
            have := ctext_len xs.length xs hRx
            rw [List.take_length] at this
            omega
          have HEr := Lib.hid hEr
          clear hcell hr1 hxt hct hrd hrr hOK hRx hT1 hT2 hEr hEt
          go_wp2_with fail
          refine HCT.out.mono ?_
          rintro e w4 ⟨rfl, hb4⟩
          have hPC := impl_ParseCode (ctext xs) w4 htl (HEr.out.below hb4 (Nat.le_refl _))
          unfold RetCodeB at hPC
          rw [HT2.out] at hPC
          have HPC := Lib.hid hPC
          have k4 := kr.below hb4 lr
          have HB4 := Lib.hid hb4
          clear hPC hq0 hqf0 hq1 hqf1 hb4
          go_wp2_with fail
          refine HPC.out.mono ?_
          rintro e w5 ⟨v5, bs5, rfl, ho5, hbs5, hb5⟩
          have ho5' : Own w5 v5 4 xs.length (flc xs) bs5 := ho5
          obtain ⟨A5, c5, rfl, -, -⟩ := ho5'.slice
          have hbr5 := HB4.out.trans (hb5.mono HB4.out.size)
          have k5 := kr.below hbr5 lr
          obtain ⟨hq0, hqf0⟩ := k5.at_ 0 rfl
          obtain ⟨hq1, hqf1⟩ := k5.at_ 1 rfl
          have hx5 := (hbr5.cell (p := ⟨b, o + t, none⟩) lb).trans hx0
          have HO5 := Lib.hid (And.intro ho5'.rd (HRd.out.below hbr5))
          have HB5 := Lib.hid hbr5
          clear ho5 ho5' hbs5 hb5 hbr5 k4
          go_wp2_with fail
          refine (sameCode _ _ xs _ HO5.out.1 HO5.out.2).mono ?_
          rintro e w6 ⟨rfl, hb6⟩
          have hbr6 := HB5.out.trans (hb6.mono HB5.out.size)
          have k6 := kr.below hbr6 lr
          clear hq0 hqf0 hq1 hqf1 hx5
          obtain ⟨hq0, hqf0⟩ := k6.at_ 0 rfl
          obtain ⟨hq1, hqf1⟩ := k6.at_ 1 rfl
          have hx6 := (hbr6.cell (p := ⟨b, o + t, none⟩) lb).trans hx0
          have HB6 := Lib.hid hbr6
          clear k5 hb6 hbr6
          cases hwf : wfF xs with
          | none =>
            have HSW : Hid (Calls Tryz.prog 11 #[.slice At xs.length dt] w6 (RetCodeB [] false w6)) := Lib.hid (by
              have := spec_WithFences _ xs w6 (HRd.out.below HB6.out)
              rw [hwf] at this
              exact this)
            clear hwf
            go_wp2_with fail
            refine HSW.out.mono ?_
            rintro e w7 ⟨v7, bs7, rfl, ho7, hbs7, hb7⟩
            have hbr7 := HB6.out.trans (hb7.mono HB6.out.size)
            have k7 := kr.below hbr7 lr
            have HBN := Lib.hid (HBw.out.trans (hbr7.mono HBw.out.size))
            clear ho7 hbs7 hb7 hbr7 hq0 hqf0 hq1 hqf1 hx6 k6 hx0
            go_wp2_with fail
            exact ⟨⟨t + 1, by omega, by go_num, HBN.out, k7⟩, by simp [intOf]; omega⟩
          | some ys =>
            have HSW : Hid (Calls Tryz.prog 11 #[.slice At xs.length dt] w6 (RetCodeB ys true w6)) := Lib.hid (by
              have := spec_WithFences _ xs w6 (HRd.out.below HB6.out)
              rw [hwf] at this
              exact this)
            have HWF := Lib.hid hwf
            clear hwf
            go_wp2_with fail
            refine HSW.out.mono ?_
            rintro e w7 ⟨v7, bs7, rfl, ho7, hbs7, hb7⟩
            have hbr7 := HB6.out.trans (hb7.mono HB6.out.size)
            have k7 := kr.below hbr7 lr
            clear hq0 hqf0 hq1 hqf1 hx6 k6
            obtain ⟨hq0, hqf0⟩ := k7.at_ 0 rfl
            obtain ⟨hq1, hqf1⟩ := k7.at_ 1 rfl
            have hx7 := (hbr7.cell (p := ⟨b, o + t, none⟩) lb).trans hx0
            have HB7 := Lib.hid hbr7
            have HIW : Hid (Calls Tryz.prog 12 #[.slice At xs.length dt] w7 (RetCodeB ys true w7)) := Lib.hid (by
              have := impl_WithFences _ xs w7 (HRd.out.below HB7.out)
              rw [HWF.out] at this
              exact this)
            clear ho7 hbs7 hb7 hbr7
            go_wp2_with fail
            refine HIW.out.mono ?_
            rintro e w8 ⟨v8, bs8, rfl, ho8, hbs8, hb8⟩
            have hbr8 := HB7.out.trans (hb8.mono HB7.out.size)
            have HO8 := Lib.hid ho8.rd
            have HB8 := Lib.hid hbr8
            have HIW2 : Hid (Calls Tryz.prog 12 #[v8] w8 (RetCodeB ys true w8)) := Lib.hid (by
              have := impl_WithFences _ ys w8 HO8.out
              rw [wf_twice HWF.out] at this
              exact this)
            obtain ⟨A8, c8, rfl, -, -⟩ := ho8.slice
            clear ho8 hbs8 hb8 hbr8 hq0 hqf0 hq1 hqf1 hx7 k7
            go_wp2_with fail
            refine HIW2.out.mono ?_
            rintro e w9 ⟨v9, bs9, rfl, ho9, hbs9, hb9⟩
            have ho9' : Own w9 v9 4 ys.length (flc ys) bs9 := ho9
            obtain ⟨A9, c9, rfl, -, -⟩ := ho9'.slice
            have hbr9 := HB8.out.trans (hb9.mono HB8.out.size)
            have HO9 := Lib.hid (And.intro (HO8.out.below hb9) ho9'.rd)
            have HB9 := Lib.hid hbr9
            clear ho9 ho9' hbs9 hb9 hbr9
            go_wp2_with fail
            refine (sameCode _ _ ys _ HO9.out.1 HO9.out.2).mono ?_
            rintro e w10 ⟨rfl, hb10⟩
            have hbr10 := HB9.out.trans (hb10.mono HB9.out.size)
            have hr10 := HO9.out.1.below hb10
            have HB10 := Lib.hid hbr10
            clear hb10 hbr10
            obtain ⟨A', c', he, -, hny, hcy, hry⟩ := hr10
            injection he with e1 e2 e3
            subst e1 e3
            unfold maxLen at hcy
            go_wp2_with fail
            clear hx0
            go_loopw [15] (fun i wq => ∃ q : Nat, q ≤ ys.length ∧ i = .int .i64 q ∧ Below w10.heap.size w10 wq) (fun i _ => ys.length - (intOf i).toNat)
            case atStart => exact ⟨0, Nat.zero_le _, rfl, Below.refl _ _⟩
            case round =>
              obtain ⟨q, hq, rfl, hBq⟩ := hrel
              have HBq := Lib.hid hBq
              by_cases hql : q < ys.length
              · obtain ⟨b2, o2, rfl, hb2, hcell2⟩ := hry (by omega)
                obtain ⟨x, hxk, hxo, hxr, hxs, hxn⟩ := ins_at (fun j u hu => (hBq.cell (p := ⟨b2, o2 + j, none⟩) hb2).trans (hcell2 j u hu)) hql
                by_cases h3 : x.o = 3
                · obtain ⟨y, hy, hy4⟩ := wf_fenced HWF.out hxk.out h3
                  have hq1 : q + 1 < ys.length := (List.getElem?_eq_some_iff.1 hy).1
                  obtain ⟨y', hyk, hyo, hyr, hys, hyn⟩ := ins_at (k := q + 1) (fun j u hu => (hBq.cell (p := ⟨b2, o2 + j, none⟩) hb2).trans (hcell2 j u hu)) hq1
                  obtain rfl : y = y' := by have := hy.symm.trans hyk.out; injection this
                  rw [h3] at hxo
                  rw [hy4] at hyo
                  have hbe : (((q : Int) + 1) == (ys.length : Int)) = false := by simp; omega
                  clear h3 hy hy4 hry hcell2 hBq hxr hxs hxn hyr hys hyn
                  go_wp2_with fail
                  exact ⟨⟨q + 1, by omega, by go_num, HBq.out⟩, by simp [intOf]; omega⟩
                · have hb3 : (x.o == 3) = false := by simpa using h3
                  clear h3 hry hcell2 hBq hxr hxs hxn
                  go_wp2_with fail
                  exact ⟨⟨q + 1, by omega, by go_num, HBq.out⟩, by simp [intOf]; omega⟩
              · have hbrn := HB10.out.trans (HBq.out.mono HB10.out.size)
                have HKN := Lib.hid (And.intro (HBw.out.trans (hbrn.mono HBw.out.size)) (kr.below hbrn lr))
                clear hry hBq hbrn
                go_wp2_with fail
                exact ⟨⟨t + 1, by omega, by go_num, HKN.out.1, HKN.out.2⟩, by simp [intOf]; omega⟩
        · clear hr1
          go_wp2_with fail
          go_ret
          exact ⟨rfl, HB3.out.trans (HBw.out.mono HB3.out.size)⟩
theorem tab_FnCodes {W : World} (h : laidMetH Tryz.prog Rows.fnCodesRow.laid W) (hS : W.ShapedOpen Tryz.prog) : EnvP W := ⟨⟨tab_of 2 (by kernel_rfl) rfl h, ⟨sentinel 5 3 (by kernel_rfl) rfl (by kernel_rfl) (by kernel_rfl) h, sentinel 4 4 (by kernel_rfl) rfl (by kernel_rfl) (by kernel_rfl) h⟩, max_of hS⟩, names_of 6 (by kernel_rfl) rfl h⟩
set_option maxRecDepth 100000 in
theorem contract_FnCodes (H : Type) (enc : TypeId × Value → H) (W : World) (base : Nat) (args : Array Value) (ds gs : List (DataW H)) (before : List MemPlace)
    (hval0 : ∀ (j : Nat) t v, Tryz.f3.params[j]? = some t → args[j]? = some v → Value.okWide Tryz.prog W .any base t v)
    (hW : DataW.Whole enc Tryz.prog Tryz.f3.params.toList Rows.fnCodesSpec.vars false W args.toList ds gs before) (hL : laidMetH Tryz.prog Rows.fnCodesRow.laid W) (hS : W.ShapedOpen Tryz.prog) :
    Calls Tryz.prog 3 args W fun e W' => ∃ v, e = .returned v ∧ Rows.fnCodesSpec.post enc Tryz.prog Tryz.f3 false true false false W args v W' := by
  have hval : ∀ (j : Nat) t v, Tryz.f3.params[j]? = some t → args[j]? = some v → Value.okWide Tryz.prog W .any base t v := hval0
  have hW' := hW
  obtain ⟨p, q, hA0, hV, rfl, hfz, hnd⟩ := hW
  have hA : DataW.TrodAll enc Tryz.prog W 0 (fun _ => true) true Tryz.f3.params.toList args.toList ds p := hA0
  rw [Tryz.params3] at hA hval
  obtain ⟨v0, vs0, d0, ds0, p0, q0, hargs, rfl, rfl, h0, r0⟩ := trodAll_cons hA
  obtain ⟨rfl, rfl, rfl⟩ := trodAll_nil r0
  obtain rfl : args = #[v0] := by cases args; simp_all
  obtain ⟨gV, tV, csV, fuelV, dV, pV, rfl, -, -, -, -, rfl⟩ := trodVars_one hV
  obtain ⟨A, n, c, rfl, hb, hnc, hc⟩ := read_bytes Tryz.underlying22 Tryz.underlying5 (by kernel_rfl) (hval 0 _ v0 rfl rfl) h0
  refine (walk_Codes A n c W hb hnc hc (tab_FnCodes hL hS)).mono fun e W' ⟨he, hb⟩ => ?_
  subst he
  exact ⟨_, rfl, post_lawV (by kernel_rfl) rfl (by kernel_rfl) (by kernel_rfl) Tryz.underlying4 (of_decide_eq_true (by kernel_rfl)) hW' hb⟩
noncomputable def world_FnCodes (os : Os) : World := laidWorldE os Rows.fnCodesRow.laid
theorem met_FnCodes (os : Os) : laidMet Tryz.prog Rows.fnCodesRow.laid ((world_FnCodes os).forCall (fun _ _ => 0) ⟨#[], #[.slice none 0 0], []⟩).memory := laidMet_of_run' 8 (by kernel_rfl) (by kernel_rfl)
theorem reads_FnCodes (os : Os) {H : Type} (enc : TypeId × Value → H) : ∃ places, DataW.whole enc Tryz.prog ((world_FnCodes os).forCall (fun _ _ => 0) ⟨#[], #[.slice none 0 0], []⟩).memory Tryz.f3.params.toList Rows.fnCodesSpec.vars false (#[.slice none 0 0] : Array Value).toList 8 = some ([.nil], [Rows.laid_loop_example_g00712_impl_opNames], places) :=
  ⟨MemPlace.row ⟨0, 0, none⟩ 9, by kernel_rfl⟩
set_option maxRecDepth 100000 in
theorem lift_FnCodes (os : Os) (started : os.Started) (H : Type) (enc : TypeId × Value → H) (F : Stop.Interp) :
    ReturnsInHanded {} Tryz.checked os 3 .any ((OpenSpec.ofChange Rows.fnCodesSpec).preRow enc Tryz.prog Tryz.f3 Rows.fnCodesRow.domain false Rows.fnCodesRow.laid) (((OpenSpec.ofChange Rows.fnCodesSpec).at F).post enc Tryz.prog Tryz.f3 false true false false) := by
  obtain ⟨places, hx⟩ := reads_FnCodes os enc
  refine returnsInHanded_of_row (C := Tryz.checked) (s := OpenSpec.ofChange Rows.fnCodesSpec) (by kernel_rfl) started (by kernel_rfl) Tryz.func3
    (witness_row_atRef (enc := enc) (C := Tryz.checked) false (world_FnCodes os) #[.slice none 0 0] rfl (by kernel_rfl) (by kernel_rfl) (by kernel_rfl)
      (OpenSpec.preRow_of_cond 8 hx (by kernel_rfl) (fun k hk => by cases hk) (by kernel_rfl) (met_FnCodes os))) ?_
  intro W base args ds gs before hval hW _ _ _ hL hS _
  exact contract_FnCodes H enc W base args ds gs before hval hW hL hS
theorem FnCodes_row : Rows.FnCodesSaid :=
  OpenClaim.holds_of_cond 3 Tryz.f3 rfl rfl rfl rfl rfl rfl rfl ⟨rfl, rfl, rfl, rfl, rfl⟩ rfl rfl rfl rfl rfl (by kernel_rfl) Tryz.func3 (by kernel_rfl)
    (of_decide_eq_true (by kernel_rfl)) (by unfold Func.isWrapper; first | (rw [if_pos (by decide +kernel)]; kernel_rfl) | (rw [if_neg (by decide +kernel)]; exact ⟨rfl, rfl⟩))
    (fun os started H enc _ F => by rw [OpenClaim.pre_eq_preRow]; exact lift_FnCodes os started H enc F)
theorem plain_FnCodes (f : FuncId) (fn : Func) (hf : Tryz.pinned.checked.prog.funcNamed Rows.fnCodesRow.func = some f) (hfn : Tryz.pinned.checked.prog.funcs[f]? = some fn) :
    true = Tryz.pinned.checked.prog.looks [] ∧ ∀ (j : Nat) t, fn.params[j]? = some t → Tryz.pinned.checked.prog.wantsStandIn t = false := by
  obtain rfl : f = 3 := Option.some.inj ((show Tryz.prog.funcNamed Rows.fnCodesRow.func = some 3 by kernel_rfl).symm.trans hf) |>.symm
  obtain rfl : fn = Tryz.f3 := (Option.some.inj (Tryz.func3.symm.trans hfn)).symm
  refine ⟨by kernel_rfl, fun j t ht => ?_⟩
  rw [Tryz.params3] at ht
  obtain rfl : t = 22 := by simpa using Array.mem_of_getElem? ht
  kernel_rfl
theorem FnCodes_holds : Rows.FnCodesCardSaid :=
  Claim7.holds_tied_plain_at .later [] _ _ _ _ FnCodes_row (fun _ h => by cases h) (by kernel_rfl) (fun _ h => by cases h) fnCodes_row_tie rfl ⟨rfl, rfl⟩ (by kernel_rfl) rfl plain_FnCodes (by kernel_rfl)
#print axioms FnCodes_holds
end Go.Proofs.YtgbgjlmkmlhefaaGreatDoor
