/- Contract of spec.ParseInstr: the instruction that a text is. Condition: the text's length is a string's. -/
import Derived.Test.YtgbgjlmkmlhefaaGreatDoorQ1
import Derived.Test.YtgbgjlmkmlhefaaGreatDoorT5
import Derived.Deep.RegionHeld3
import Derived.IntWalk
namespace Go.Proofs.YtgbgjlmkmlhefaaGreatDoor
set_option maxRecDepth 20000
set_option linter.unusedSimpArgs false
set_option linter.unusedVariables false
open Go.ChangeShapes Go.WideShapes Go.ChangeAt Go.RowKit
set_option linter.unusedVariables false
def RetInsB (o : Option Ins) (w : World) (e : Ending) (w' : World) : Prop := e = .returned (.tuple #[insV (o.getD ⟨0, 0, 0, 0⟩), .bool o.isSome]) ∧ Below w.heap.size w w'
theorem strsC_at {L : List (List UInt8)} {k : Nat} {p : List UInt8} (h : L[k]? = some p) : (strs L)[k]? = some (str p) := by simp [strs, h]
set_option maxHeartbeats 6400000 in
theorem spec_ParseInstr (s : List UInt8) (w : World) (hs : s.length ≤ 1048576) :
    Calls Tryz.prog 90 #[str s] w (RetInsB (parseIF s) w) := by
  have hsz : (⟨s.toArray⟩ : ByteArray).size = s.length := by show s.toArray.size = _; simp
  have hB0 := ((Below.refl w.heap.size w).alloc (Nat.le_refl _) (.cells #[.int .i64 0, .int .i64 0, .int .i64 0, .int .i64 0] 37)).alloc (by simp) (.cells #[.int .i64 0, .int .i64 0, .int .i64 0, .int .i64 0] 37)
  have kA0 := (Bk.new w #[.int .i64 0, .int .i64 0, .int .i64 0, .int .i64 0] 37).alloc (.cells #[.int .i64 0, .int .i64 0, .int .i64 0, .int .i64 0] 37)
  have kB0 := Bk.new (w.alloc (.cells #[.int .i64 0, .int .i64 0, .int .i64 0, .int .i64 0] 37)) #[.int .i64 0, .int .i64 0, .int .i64 0, .int .i64 0] 37
  rw [World.size_alloc] at kB0
  by_cases hlen : 60 < s.length
  · have HF : Hid (parseIF s = none) := Lib.hid (by simp [parseIF, hlen])
    obtain ⟨hb0, -⟩ := kB0.at_ 0 rfl
    obtain ⟨hb1, -⟩ := kB0.at_ 1 rfl
    obtain ⟨hb2, -⟩ := kB0.at_ 2 rfl
    obtain ⟨hb3, -⟩ := kB0.at_ 3 rfl
    go_enter Tryz.func90, Tryz.ntmps90
    go_wp2_with fail
    obtain ⟨hz0, -⟩ := kA0.at_ 0 rfl
    obtain ⟨hz1, -⟩ := kA0.at_ 1 rfl
    obtain ⟨hz2, -⟩ := kA0.at_ 2 rfl
    obtain ⟨hz3, -⟩ := kA0.at_ 3 rfl
    exact bodyPost_ret (v := .tuple #[insV ⟨0, 0, 0, 0⟩, .bool false]) (by simp [results, Tryz.results90, go_sem, hz0, hz1, hz2, hz3, insV]) rfl ⟨by rw [HF.out]; rfl, hB0⟩
  · obtain ⟨p0, ps, hws⟩ : ∃ p0 ps, partsF 32 s = p0 :: ps := List.exists_cons_of_ne_nil (partsF_ne 32 s)
    have HPI : Hid (parseIF s = parseW (p0 :: ps)) := Lib.hid (by unfold parseIF; rw [if_neg hlen, hws])
    have hpl := partsF_len 32 s
    rw [hws] at hpl
    have hpl' : (p0 :: ps).length ≤ 61 := by omega
    have hpp : ∀ p ∈ p0 :: ps, p.length ≤ 60 := by
      intro p hp
      have h1 := splitK_part 32 (Lib.count s [32]) s p (by rw [(splitK_parts 32 _ s).1 (by have := count_parts 32 s.length s (Nat.le_refl _); omega), hws]; exact hp)
      omega
    have HPP := Lib.hid hpp
    have hP := l01Parts s 32 (((w.alloc (.cells #[.int .i64 0, .int .i64 0, .int .i64 0, .int .i64 0] 37)).alloc (.cells #[.int .i64 0, .int .i64 0, .int .i64 0, .int .i64 0] 37))) hs
    rw [hws] at hP
    obtain ⟨ws, hW⟩ : ∃ ws, p0 :: ps = ws := ⟨_, rfl⟩
    have hwl : ws.length = 1 + ps.length := by rw [← hW]; simp; omega
    have hw0 : ws[0]? = some p0 := by rw [← hW]; rfl
    have hwk : ∀ k, ws[1 + k]? = ps[k]? := by intro k; rw [← hW, Nat.add_comm]; rfl
    rw [hW] at hP hpl' HPP HPI
    have HP := Lib.hid hP
    have HW := Lib.hid hW
    have HWK := Lib.hid hwk
    have HW0 := Lib.hid hw0
    have HWL := Lib.hid hwl
    clear hP hW hwk hws hpl hpp hw0 hwl
    go_enter Tryz.func90, Tryz.ntmps90
    go_wp2_with fail
    refine HP.out.mono ?_
    rintro e w1 ⟨v1, bs1, rfl, hO1, hbs1, hb1⟩
    obtain ⟨A1, c1, rfl, -, -⟩ := hO1.slice
    obtain ⟨A2, c2, hLe, -, hnc2, hcm2, hLr⟩ := hO1.rd
    injection hLe with e1 e2 e3
    subst e1
    subst e3
    obtain ⟨b1, o1, rfl, hbl1, hcell1⟩ := hLr (by have := HWL.out; omega)
    have kA1 := kA0.below hb1 kA0.lt
    have kB1 := kB0.below hb1 kB0.lt
    have hB1 := hB0.trans (hb1.mono hB0.size)
    have HC1 : Hid (∀ j p, ws[j]? = some p → w1.cell? ⟨b1, o1 + j, none⟩ = some (str p)) := Lib.hid fun j p hp => hcell1 j _ (strsC_at hp)
    unfold maxLen at hcm2
    clear hLr e2 hO1 hB0 kA0 kB0 hb1 hcell1 hbs1
    go_wp2_with fail
    go_loopw [6] (fun j wr => ∃ k : Nat, k ≤ 9 ∧ j = .int .i64 k ∧ Hid (∀ i : Nat, i < k → matchB ws i = false) ∧ Below w1.heap.size w1 wr) (fun j _ => 9 - (intOf j).toNat)
    case atStart => exact ⟨0, by omega, rfl, Lib.hid fun i hi => by omega, Below.refl _ _⟩
    case round =>
      obtain ⟨k, hk, rfl, HN, hB⟩ := hrel
      have kA := kA1.below hB kA1.lt
      have kB := kB1.below hB kB1.lt
      have hBw := hB1.trans (hB.mono hB1.size)
      by_cases hk9 : k < 9
      · have hk8 : (k : Int) ≤ 8 := by omega
        have hin : inB (k : Int) 0 8 = true := by simp [inB]; omega
        have hfl := formF_len (k : Int)
        have HM := Lib.hid (formF_mem hin)
        obtain ⟨f, hf⟩ : ∃ f, formF (k : Int) = f := ⟨_, rfl⟩
        have hF := l02Form (k : Int)
        have hWd := fun W => l02Word (k : Int) W hin
        obtain ⟨wd, hwd⟩ : ∃ wd, wordF (k : Int) = wd := ⟨_, rfl⟩
        rw [hf] at hF hfl HM
        rw [hwd] at hWd
        have hmt : matchB ws k = (p0 == wd && ws.length == 1 + f.length) := by
          unfold matchB
          rw [hf, hwd, ← HW.out]
          simp
        have hp0 := (hB.cell (p := ⟨b1, o1, none⟩) hbl1).trans (HC1.out 0 p0 HW0.out)
        have hsf : (⟨f.toArray⟩ : ByteArray).size = f.length := by show f.toArray.size = _; simp
        have HF := Lib.hid hF
        have HWd := Lib.hid hWd
        have HFf := Lib.hid hf
        have HMT := Lib.hid hmt
        have hbl : b1 < wr.heap.size := Nat.lt_of_lt_of_le hbl1 hB.size
        have hwl2 : ws.length ≤ 61 := hpl'
        have hwp : 0 < ws.length := by have := HWL.out; omega
        clear hF hWd hf hwd hmt hin hk8
        rename World => wo
        go_wp2_with fail
        refine (HF.out _).mono ?_
        rintro e w2 ⟨rfl, hb2⟩
        have hp2 := (hb2.cell (p := ⟨b1, o1, none⟩) hbl).trans hp0
        have hbl2 : b1 < w2.heap.size := Nat.lt_of_lt_of_le hbl hb2.size
        clear hp0
        by_cases hpw : p0 = wd
        · subst hpw
          by_cases hl : ws.length = 1 + f.length
          · have hlz : ((ws.length : Int) != 1 + (f.length : Int)) = false := by simp; omega
            have HL := Lib.hid hl
            clear hl
            go_wp2_with fail
            have q0 := Past.cell hbl2 hp2
            have hwr : IntKind.i64.wrap (1 + (f.length : Int)) = 1 + (f.length : Int) := IntWalk.i64_in _ (by omega)
            refine wp_region_past (by kernel_rfl) (by kernel_rfl) ?_
            repeat (go_big_quiet_step (first | (go_at_call 103; exact Calls.past_of (HWd.out _))))
            refine wpQuiet_nil ?_
            intro _ hw'
            obtain ⟨p, rfl⟩ := hw'
            have hS4 := p.hb
            clear hwr q0
            obtain ⟨w4, hw4⟩ : ∃ z, p.v = z := ⟨_, rfl⟩
            rw [hw4] at hS4 ⊢
            have hB4 := hB.trans ((hb2.trans (hS4.mono hb2.size)).mono hB.size)
            clear hw4
            have hmk : matchB ws k = true := by rw [HMT.out, HL.out]; simp
            have hps : ps.length = f.length := by have := HL.out; have := HWL.out; omega
            have HPW : Hid (parseIF s = (ps.mapM valF).map (buildI k f)) := Lib.hid (by
              rw [HPI.out]
              unfold parseW
              rw [find_at hk9 hmk HN.out, ← HW.out]
              simp only [List.tail_cons]
              rw [HFf.out])
            have HPS := Lib.hid hps
            have kC4 := Bk.new w4 #[.int .i64 (k : Int), .int .i64 0, .int .i64 0, .int .i64 0] 37
            have hB4C := (Below.refl w4.heap.size w4).alloc (Nat.le_refl _) (.cells #[.int .i64 (k : Int), .int .i64 0, .int .i64 0, .int .i64 0] 37)
            clear hp2 hbl2 hS4 hb2 kA kB hBw hmk hps
            go_wp2_with fail
            go_loopw [9] (fun i wr => ∃ (m : Nat) (I : Ins) (vs : List Int), m ≤ f.length ∧ i = .int .i64 m ∧ Hid (vs.length = m ∧ (ps.take m).mapM valF = some vs ∧ I = buildI k (f.take m) vs) ∧
              Bk wr w4.heap.size #[.int .i64 I.o, .int .i64 I.r, .int .i64 I.s, .int .i64 I.n] 37 ∧ Below w4.heap.size w4 wr) (fun i _ => f.length - (intOf i).toNat)
            case atStart => exact ⟨0, ⟨k, 0, 0, 0⟩, [], Nat.zero_le _, rfl, Lib.hid ⟨rfl, by simp, by simp [buildI]⟩, kC4, hB4C⟩
            case round =>
              obtain ⟨m, ⟨Io, Ir, Is, In⟩, vs, hm, rfl, HI, kC, hBc⟩ := hrel
              clear kC4 hB4C
              simp only at kC
              have hBx := hB4.trans (hBc.mono hB4.size)
              have hBz := hB1.trans (hBx.mono hB1.size)
              have kAx := kA1.below hBx kA1.lt
              have kBx := kB1.below hBx kB1.lt
              by_cases hmf : m < f.length
              · obtain ⟨c, hc⟩ := opt_at hmf
                obtain ⟨pm, hpm⟩ : ∃ pm, ps[m]? = some pm := ⟨_, List.getElem?_eq_getElem (by have := HPS.out; omega)⟩
                have hwm : ws[1 + m]? = some pm := by rw [HWK.out]; exact hpm
                have hcw := (hBx.cell (p := ⟨b1, o1 + (1 + m), none⟩) hbl1).trans (HC1.out _ _ hwm)
                have hpl := HPP.out pm (List.mem_of_getElem? hwm)
                have hm1 : 1 + m < ws.length := (List.getElem?_eq_some_iff.1 hwm).1
                have hcm := HM.out c (List.mem_of_getElem? hc)
                have hks : m < (⟨f.toArray⟩ : ByteArray).size := by rw [hsf]; exact hmf
                have hE : ((⟨f.toArray⟩ : ByteArray)[m]'hks) = c := by
                  have h1 : f[m] = c := by rw [List.getElem?_eq_getElem hmf] at hc; injection hc
                  rw [← h1]
                  rfl
                have hRd := fun W => l01Read pm W (by omega)
                have HEc := Lib.hid hE
                have HCc := Lib.hid hc
                have HPM := Lib.hid hpm
                have kCl := kC.lt
                clear hE hc hpm hwm
                cases hrf : readF pm with
                | none =>
                  have HNone : Hid (parseIF s = none) := Lib.hid (by rw [HPW.out, mapM_none HPM.out (by simp [valF, hrf])]; rfl)
                  rw [hrf] at hRd
                  have HRd := Lib.hid hRd
                  clear hRd hrf
                  go_wp2_with fail
                  refine (HRd.out _).mono ?_
                  rintro e w5 ⟨⟨x, rfl, -⟩, hb5⟩
                  have kAx := kAx.below hb5 kAx.lt
                  have kBx := kBx.below hb5 kBx.lt
                  have hBz := hBz.trans (hb5.mono hBz.size)
                  obtain ⟨hz0, hf0⟩ := kAx.at_ 0 rfl
                  obtain ⟨hz1, hf1⟩ := kAx.at_ 1 rfl
                  obtain ⟨hz2, hf2⟩ := kAx.at_ 2 rfl
                  obtain ⟨hz3, hf3⟩ := kAx.at_ 3 rfl
                  obtain ⟨hy0, -⟩ := kBx.at_ 0 rfl
                  obtain ⟨hy1, -⟩ := kBx.at_ 1 rfl
                  obtain ⟨hy2, -⟩ := kBx.at_ 2 rfl
                  obtain ⟨hy3, -⟩ := kBx.at_ 3 rfl
                  go_wp2_with fail
                  have kF := (((kAx.set_ 0 (.int .i64 0)).set_ 1 (.int .i64 0)).set_ 2 (.int .i64 0)).set_ 3 (.int .i64 0)
                  obtain ⟨hr0, -⟩ := kF.at_ 0 rfl
                  obtain ⟨hr1, -⟩ := kF.at_ 1 rfl
                  obtain ⟨hr2, -⟩ := kF.at_ 2 rfl
                  obtain ⟨hr3, -⟩ := kF.at_ 3 rfl
                  exact bodyPost_ret (v := .tuple #[insV ⟨0, 0, 0, 0⟩, .bool false]) (by simp [results, Tryz.results90, go_sem, hr0, hr1, hr2, hr3, insV]) rfl ⟨by rw [HNone.out]; rfl,
                    (((hBz.setCell (p := ⟨w.heap.size, 0, none⟩) (Nat.le_refl _) _).setCell (p := ⟨w.heap.size, 1, none⟩) (Nat.le_refl _) _).setCell (p := ⟨w.heap.size, 2, none⟩) (Nat.le_refl _) _).setCell (p := ⟨w.heap.size, 3, none⟩) (Nat.le_refl _) _⟩
                | some v =>
                  rw [hrf] at hRd
                  have HRd := Lib.hid hRd
                  have hval := l01Value v
                  cases hvb : valB v
                  · have HNone : Hid (parseIF s = none) := Lib.hid (by rw [HPW.out, mapM_none HPM.out (by simp [valF, hrf, hvb])]; rfl)
                    rw [hvb] at hval
                    have HVal := Lib.hid hval
                    clear hRd hrf hval hvb
                    go_wp2_with fail
                    refine (HRd.out _).mono ?_
                    rintro e w5 ⟨⟨x, rfl, hx⟩, hb5⟩
                    obtain rfl : v = x := (hx v rfl).symm
                    have kAx := kAx.below hb5 kAx.lt
                    have kBx := kBx.below hb5 kBx.lt
                    have hBz := hBz.trans (hb5.mono hBz.size)
                    clear hx
                    go_wp2_with fail
                    refine (HVal.out _).mono ?_
                    rintro e w6 ⟨rfl, rfl⟩
                    obtain ⟨hz0, hf0⟩ := kAx.at_ 0 rfl
                    obtain ⟨hz1, hf1⟩ := kAx.at_ 1 rfl
                    obtain ⟨hz2, hf2⟩ := kAx.at_ 2 rfl
                    obtain ⟨hz3, hf3⟩ := kAx.at_ 3 rfl
                    obtain ⟨hy0, -⟩ := kBx.at_ 0 rfl
                    obtain ⟨hy1, -⟩ := kBx.at_ 1 rfl
                    obtain ⟨hy2, -⟩ := kBx.at_ 2 rfl
                    obtain ⟨hy3, -⟩ := kBx.at_ 3 rfl
                    go_wp2_with fail
                    have kF := (((kAx.set_ 0 (.int .i64 0)).set_ 1 (.int .i64 0)).set_ 2 (.int .i64 0)).set_ 3 (.int .i64 0)
                    obtain ⟨hr0, -⟩ := kF.at_ 0 rfl
                    obtain ⟨hr1, -⟩ := kF.at_ 1 rfl
                    obtain ⟨hr2, -⟩ := kF.at_ 2 rfl
                    obtain ⟨hr3, -⟩ := kF.at_ 3 rfl
                    exact bodyPost_ret (v := .tuple #[insV ⟨0, 0, 0, 0⟩, .bool false]) (by simp [results, Tryz.results90, go_sem, hr0, hr1, hr2, hr3, insV]) rfl ⟨by rw [HNone.out]; rfl,
                      (((hBz.setCell (p := ⟨w.heap.size, 0, none⟩) (Nat.le_refl _) _).setCell (p := ⟨w.heap.size, 1, none⟩) (Nat.le_refl _) _).setCell (p := ⟨w.heap.size, 2, none⟩) (Nat.le_refl _) _).setCell (p := ⟨w.heap.size, 3, none⟩) (Nat.le_refl _) _⟩
                  · have hvp : valF pm = some v := by simp [valF, hrf, hvb]
                    rw [hvb] at hval
                    have HVal := Lib.hid hval
                    have HNX : Hid ((vs ++ [v]).length = m + 1 ∧ (ps.take (m + 1)).mapM valF = some (vs ++ [v]) ∧ setF ⟨Io, Ir, Is, In⟩ c v = buildI k (f.take (m + 1)) (vs ++ [v])) := Lib.hid (by
                      obtain ⟨h1, h2, h3⟩ := HI.out
                      exact ⟨by simp [h1], mapM_snoc h2 HPM.out hvp, by rw [buildI_snoc HCc.out h1, h3]⟩)
                    clear hRd hrf hval hvb hvp
                    go_wp2_with fail
                    refine (HRd.out _).mono ?_
                    rintro e w5 ⟨⟨x, rfl, hx⟩, hb5⟩
                    obtain rfl : v = x := (hx v rfl).symm
                    have kC5 := kC.below hb5 kCl
                    have hB5 := hBc.trans (hb5.mono hBc.size)
                    clear hx
                    go_wp2_with fail
                    refine (HVal.out _).mono ?_
                    rintro e w6 ⟨rfl, rfl⟩
                    rcases hcm with rfl | rfl | rfl
                    all_goals
                      have hv : ((((⟨f.toArray⟩ : ByteArray)[m]'hks).toNat : Int)) = _ := congrArg (fun u : UInt8 => (u.toNat : Int)) HEc.out
                    · obtain ⟨hcc, hcf⟩ := kC5.at_ 1 rfl
                      go_wp2_with fail
                      exact ⟨⟨m + 1, setF ⟨Io, Ir, Is, In⟩ 114 v, vs ++ [v], by omega, by go_num, HNX, kC5.set_ 1 (.int .i64 v), hB5.setCell (p := ⟨w4.heap.size, 1, none⟩) (Nat.le_refl _) (.int .i64 v)⟩, by simp [intOf]; omega⟩
                    · obtain ⟨hcc, hcf⟩ := kC5.at_ 2 rfl
                      go_wp2_with fail
                      exact ⟨⟨m + 1, setF ⟨Io, Ir, Is, In⟩ 115 v, vs ++ [v], by omega, by go_num, HNX, kC5.set_ 2 (.int .i64 v), hB5.setCell (p := ⟨w4.heap.size, 2, none⟩) (Nat.le_refl _) (.int .i64 v)⟩, by simp [intOf]; omega⟩
                    · obtain ⟨hcc, hcf⟩ := kC5.at_ 3 rfl
                      go_wp2_with fail
                      exact ⟨⟨m + 1, setF ⟨Io, Ir, Is, In⟩ 110 v, vs ++ [v], by omega, by go_num, HNX, kC5.set_ 3 (.int .i64 v), hB5.setCell (p := ⟨w4.heap.size, 3, none⟩) (Nat.le_refl _) (.int .i64 v)⟩, by simp [intOf]; omega⟩
              · obtain rfl : m = f.length := by omega
                have HSome : Hid (parseIF s = some ⟨Io, Ir, Is, In⟩) := Lib.hid (by
                  obtain ⟨h1, h2, h3⟩ := HI.out
                  rw [List.take_of_length_le (by have := HPS.out; omega)] at h2
                  rw [List.take_length] at h3
                  rw [HPW.out, h2, h3]
                  rfl)
                obtain ⟨hi0, -⟩ := kC.at_ 0 rfl
                obtain ⟨hi1, -⟩ := kC.at_ 1 rfl
                obtain ⟨hi2, -⟩ := kC.at_ 2 rfl
                obtain ⟨hi3, -⟩ := kC.at_ 3 rfl
                obtain ⟨hz0, hf0⟩ := kAx.at_ 0 rfl
                obtain ⟨hz1, hf1⟩ := kAx.at_ 1 rfl
                obtain ⟨hz2, hf2⟩ := kAx.at_ 2 rfl
                obtain ⟨hz3, hf3⟩ := kAx.at_ 3 rfl
                go_wp2_with fail
                have kF := (((kAx.set_ 0 (.int .i64 Io)).set_ 1 (.int .i64 Ir)).set_ 2 (.int .i64 Is)).set_ 3 (.int .i64 In)
                obtain ⟨hr0, -⟩ := kF.at_ 0 rfl
                obtain ⟨hr1, -⟩ := kF.at_ 1 rfl
                obtain ⟨hr2, -⟩ := kF.at_ 2 rfl
                obtain ⟨hr3, -⟩ := kF.at_ 3 rfl
                exact bodyPost_ret (v := .tuple #[insV ⟨Io, Ir, Is, In⟩, .bool true]) (by simp [results, Tryz.results90, go_sem, hr0, hr1, hr2, hr3, insV]) rfl ⟨by rw [HSome.out]; rfl,
                  (((hBz.setCell (p := ⟨w.heap.size, 0, none⟩) (Nat.le_refl _) _).setCell (p := ⟨w.heap.size, 1, none⟩) (Nat.le_refl _) _).setCell (p := ⟨w.heap.size, 2, none⟩) (Nat.le_refl _) _).setCell (p := ⟨w.heap.size, 3, none⟩) (Nat.le_refl _) _⟩
          · have hlz : ((ws.length : Int) != 1 + (f.length : Int)) = true := by simp; omega
            have HN' : Hid (∀ i : Nat, i < k + 1 → matchB ws i = false) := Lib.hid fun i hi => by
              by_cases e : i = k
              · subst e
                rw [HMT.out]
                simp [hl]
              · exact HN.out i (by omega)
            clear hl
            go_wp2_with fail
            have q0 := Past.cell hbl2 hp2
            have hwr : IntKind.i64.wrap (1 + (f.length : Int)) = 1 + (f.length : Int) := IntWalk.i64_in _ (by omega)
            refine wp_region_past (by kernel_rfl) (by kernel_rfl) ?_
            repeat (go_big_quiet_step (first | (go_at_call 103; exact Calls.past_of (HWd.out _))))
            refine wpQuiet_nil ?_
            intro _ hw'
            obtain ⟨p, rfl⟩ := hw'
            have hS4 := p.hb
            clear hwr q0
            have hB9 := hB.trans ((hb2.trans (hS4.mono hb2.size)).mono hB.size)
            go_wp2_with fail
            exact ⟨⟨k + 1, by omega, by go_num, HN', hB9⟩, by simp [intOf]; omega⟩
        · have HN' : Hid (∀ i : Nat, i < k + 1 → matchB ws i = false) := Lib.hid fun i hi => by
            by_cases e : i = k
            · subst e
              rw [HMT.out]
              simp [hpw]
            · exact HN.out i (by omega)
          have hpq : (p0 == wd) = false := by simp [hpw]
          have hpq2 : (@BEq.beq (List UInt8) instBEqOfDecidableEq p0 wd) = false := by simp [hpw]
          clear hpw
          go_wp2_with fail
          have q0 := Past.cell hbl2 hp2
          have hwr : IntKind.i64.wrap (1 + (f.length : Int)) = 1 + (f.length : Int) := IntWalk.i64_in _ (by omega)
          refine wp_region_past (by kernel_rfl) (by kernel_rfl) ?_
          repeat (go_big_quiet_step (first | (go_at_call 103; exact Calls.past_of (HWd.out _))))
          refine wpQuiet_nil ?_
          intro _ hw'
          obtain ⟨p, rfl⟩ := hw'
          have hS4 := p.hb
          clear hwr q0
          have hB9 := hB.trans ((hb2.trans (hS4.mono hb2.size)).mono hB.size)
          go_wp2_with fail
          exact ⟨⟨k + 1, by omega, by go_num, HN', hB9⟩, by simp [intOf]; omega⟩
      · have hk8 : ¬ ((k : Int) ≤ 8) := by omega
        have HNone : Hid (parseIF s = none) := Lib.hid (by
          rw [HPI.out]
          unfold parseW
          rw [find_no (fun j hj => HN.out j (by omega))])
        have kBx := kB
        obtain ⟨hz0, hf0⟩ := kA.at_ 0 rfl
        obtain ⟨hz1, hf1⟩ := kA.at_ 1 rfl
        obtain ⟨hz2, hf2⟩ := kA.at_ 2 rfl
        obtain ⟨hz3, hf3⟩ := kA.at_ 3 rfl
        obtain ⟨hy0, -⟩ := kBx.at_ 0 rfl
        obtain ⟨hy1, -⟩ := kBx.at_ 1 rfl
        obtain ⟨hy2, -⟩ := kBx.at_ 2 rfl
        obtain ⟨hy3, -⟩ := kBx.at_ 3 rfl
        go_wp2_with fail
        have kF := (((kA.set_ 0 (.int .i64 0)).set_ 1 (.int .i64 0)).set_ 2 (.int .i64 0)).set_ 3 (.int .i64 0)
        obtain ⟨hr0, -⟩ := kF.at_ 0 rfl
        obtain ⟨hr1, -⟩ := kF.at_ 1 rfl
        obtain ⟨hr2, -⟩ := kF.at_ 2 rfl
        obtain ⟨hr3, -⟩ := kF.at_ 3 rfl
        exact bodyPost_ret (v := .tuple #[insV ⟨0, 0, 0, 0⟩, .bool false]) (by simp [results, Tryz.results90, go_sem, hr0, hr1, hr2, hr3, insV]) rfl ⟨by rw [HNone.out]; rfl,
          (((hBw.setCell (p := ⟨w.heap.size, 0, none⟩) (Nat.le_refl _) _).setCell (p := ⟨w.heap.size, 1, none⟩) (Nat.le_refl _) _).setCell (p := ⟨w.heap.size, 2, none⟩) (Nat.le_refl _) _).setCell (p := ⟨w.heap.size, 3, none⟩) (Nat.le_refl _) _⟩
end Go.Proofs.YtgbgjlmkmlhefaaGreatDoor
