import Derived.Test.YtgbgjlmkmlhefaaGreatDoorS3
import Derived.Test.YtgbgjlmkmlhefaaGreatDoorEnv
/- Contract of impl.ParseInstr: it answers as the model does. Conditions: the text's length is a string's; the library's tables, the errors' variables and the table of names stand as written. -/
namespace Go.Proofs.YtgbgjlmkmlhefaaGreatDoor
set_option maxRecDepth 20000
set_option linter.unusedSimpArgs false
set_option linter.unusedVariables false
open Go.ChangeShapes Go.WideShapes Go.ChangeAt Go.RowKit
set_option linter.unusedVariables false
structure EnvP (w : World) : Prop where
  env : Env w
  names : Names w
theorem EnvP.below {B : Nat} {w w' : World} (h : EnvP w) (hb : Below B w w') (hB : w.heap.size ≤ B) : EnvP w' := ⟨h.env.below hb hB, h.names.below hb hB⟩
theorem split1_call (s : List UInt8) (w : World) (hs : s.length ≤ 1048576) (hm : MaxSet w) :
    Calls Tryz.prog 59 #[str s, .string ⟨#[32]⟩] w fun e w' => e = .returned (.slice (some ⟨w.heap.size, 0, none⟩) (partsF 32 s).length (partsF 32 s).length) ∧ w.heap.size < w'.heap.size ∧ Below w.heap.size w w' ∧
      ∀ j p, (partsF 32 s)[j]? = some p → w'.cell? ⟨w.heap.size, j, none⟩ = some (str p) := by
  obtain ⟨m0, hm0⟩ := hm
  have hc := count_parts 32 s.length s (Nat.le_refl _)
  refine (Tryz.strings_Split ⟨s.toArray⟩ ⟨#[32]⟩ m0 w (by show s.toArray.size < _; simp; omega) hm0 (by decide)).mono ?_
  rintro e w' ⟨rfl, rfl⟩
  have hcn : Lib.countB ⟨s.toArray⟩ ⟨#[32]⟩ + 1 = (partsF 32 s).length := hc
  rw [hcn]
  refine ⟨rfl, by simp, (Below.refl _ _).alloc (Nat.le_refl _) _, fun j p hp => ?_⟩
  rw [World.cell?_alloc_new]
  rw [← split_parts, List.getElem?_map] at hp
  simp only [List.getElem?_toArray, List.getElem?_map]
  cases hx : (Lib.splitB ⟨#[32]⟩ 0 (Lib.countB ⟨s.toArray⟩ ⟨#[32]⟩) ⟨s.toArray⟩)[j]? with
  | none => rw [hx] at hp; cases hp
  | some q =>
    rw [hx] at hp
    injection hp with hp
    subst hp
    rfl
theorem lt9 {k : Nat} (h : k < 9) : k = 0 ∨ k = 1 ∨ k = 2 ∨ k = 3 ∨ k = 4 ∨ k = 5 ∨ k = 6 ∨ k = 7 ∨ k = 8 := by omega
def namesV : Value := .agg #[str [115, 101, 116], str [97, 100, 100], str [108, 111, 97, 100], str [115, 116, 111, 114, 101], str [102, 101, 110, 99, 101], str [99, 97, 115], str [106, 122], str [115, 119, 97, 112], str [115, 117, 98]]
theorem run_name (k : Nat) (x : List UInt8) (w : World) (hk : k < 9) (hx : wordTab[k]? = some x) : (Instr.index 92 namesV (.int .i64 (k : Int))).run Tryz.prog w = .ok (str x) w := by
  have h1 : Tryz.prog.underlying 92 = some (.array 9 9) := by kernel_rfl
  have h2 : Tryz.prog.underlying 9 = some .string := by kernel_rfl
  have h3 : (0 : Int) ≤ k ∧ (k : Int) < 9 := by omega
  have hsz : (sizeOf 9).run Tryz.prog w = .ok 1 w := by kernel_rfl
  unfold namesV
  simp [Instr.index, run_underlying h1, asIntOf, h3, part, isAgg, run_underlying h2, hsz, go_sem]
  rw [if_pos hk]
  have e : ([str [115, 101, 116], str [97, 100, 100], str [108, 111, 97, 100], str [115, 116, 111, 114, 101], str [102, 101, 110, 99, 101], str [99, 97, 115], str [106, 122], str [115, 119, 97, 112], str [115, 117, 98]] : List Value) = wordTab.map str := rfl
  rw [e, List.getElem?_map, hx]
  rfl
def OpAns (p : List UInt8) (w : World) (e : Ending) (w' : World) : Prop :=
  ((∃ k : Nat, k < 9 ∧ wordF k = p ∧ e = .returned (.tuple #[.int .i64 k, .bool true])) ∨ ((∀ k : Nat, k < 9 → wordF k ≠ p) ∧ e = .returned (.tuple #[.int .i64 0, .bool false]))) ∧ Below w.heap.size w w'
set_option maxHeartbeats 3200000 in
theorem impl_opNamed (p : List UInt8) (w : World) (hn : Names w) :
    Calls Tryz.prog 60 #[str p] w (OpAns p w) := by
  have h0 := hn 0 _ rfl
  have h1 := hn 1 _ rfl
  have h2 := hn 2 _ rfl
  have h3 := hn 3 _ rfl
  have h4 := hn 4 _ rfl
  have h5 := hn 5 _ rfl
  have h6 := hn 6 _ rfl
  have h7 := hn 7 _ rfl
  have h8 := hn 8 _ rfl
  clear hn
  go_enter Tryz.func60, Tryz.ntmps60
  go_wp2_with fail
  clear h0 h1 h2 h3 h4 h5 h6 h7 h8
  go_loop [7] (fun i => ∃ k : Nat, k ≤ 9 ∧ i = .int .i64 k ∧ Hid (∀ j : Nat, j < k → wordF j ≠ p)) (fun i => 9 - (intOf i).toNat)
  case atStart => exact ⟨0, by omega, rfl, Lib.hid fun j hj => by omega⟩
  case round =>
    obtain ⟨k, hk, rfl, HN⟩ := hrel
    by_cases hk9 : k < 9
    · have hrun := run_name k (wordF k) w hk9 (wordF_at hk9)
      unfold namesV at hrun
      by_cases hp : wordF k = p
      · have HP := Lib.hid hp
        rw [hp] at hrun
        clear hp
        go_wp2_with fail
        exact bodyPost_ret (v := .tuple #[.int .i64 k, .bool true]) (by simp [results, Tryz.results60, go_sem]) rfl ⟨.inl ⟨k, hk9, HP.out, rfl⟩, Below.refl _ _⟩
      · have HN' : Hid (∀ j : Nat, j < k + 1 → wordF j ≠ p) := Lib.hid fun j hj => by
          by_cases e : j = k
          · subst e
            exact hp
          · exact HN.out j (by omega)
        obtain ⟨wd, hwd⟩ : ∃ wd, wordF (k : Int) = wd := ⟨_, rfl⟩
        rw [hwd] at hrun hp
        have hq1 : (wd == p) = false := by simp [hp]
        have hq2 : (@BEq.beq (List UInt8) instBEqOfDecidableEq wd p) = false := by simp [hp]
        clear hwd hp
        go_wp2_with fail
        exact ⟨⟨k + 1, by omega, by go_num, HN'⟩, by simp [intOf]; omega⟩
    · have hq : ¬ ((k : Int) < 9) := by omega
      have HA : Hid (∀ k : Nat, k < 9 → wordF k ≠ p) := Lib.hid fun j hj => HN.out j (by omega)
      go_wp2_with fail
      exact bodyPost_ret (v := .tuple #[.int .i64 0, .bool false]) (by simp [results, Tryz.results60, go_sem]) rfl ⟨.inr ⟨HA.out, rfl⟩, Below.refl _ _⟩
theorem owns_formP {w : World} {base : Nat} {e : TypeId} {size : Nat} {A : Option Addr} {n m c : Nat} {xs : List Value} (h : w.ownsRow base e size (.slice A m c) n xs) (hn : 0 < n) : ∃ g, A = some ⟨g, 0, none⟩ := by
  obtain ⟨_, ⟨_, h0⟩ | ⟨g, cap, cur, h1, _⟩⟩ := h
  · omega
  · injection h1 with h1
    exact ⟨g, h1⟩
theorem offs0 : offs 0 = [1, 3] := by decide
set_option maxHeartbeats 6400000 in
theorem impl_ParseInstr (s : List UInt8) (w : World) (hs : s.length ≤ 1048576) (hE : EnvP w) :
    Calls Tryz.prog 31 #[str s] w (RetInsB (parseIF s) w) := by
  have hsz : (⟨s.toArray⟩ : ByteArray).size = s.length := by show s.toArray.size = _; simp
  have hB0 := (Below.refl w.heap.size w).alloc (Nat.le_refl _) (.cells #[.int .i64 0, .int .i64 0, .int .i64 0, .int .i64 0] 37)
  have kA0 := Bk.new w #[.int .i64 0, .int .i64 0, .int .i64 0, .int .i64 0] 37
  have HE := Lib.hid hE
  clear hE
  by_cases hlen : 60 < s.length
  · have HNone : Hid (parseIF s = none) := Lib.hid (by simp [parseIF, hlen])
    obtain ⟨hz0, -⟩ := kA0.at_ 0 rfl
    obtain ⟨hz1, -⟩ := kA0.at_ 1 rfl
    obtain ⟨hz2, -⟩ := kA0.at_ 2 rfl
    obtain ⟨hz3, -⟩ := kA0.at_ 3 rfl
    go_enter Tryz.func31, Tryz.ntmps31
    go_wp2_with fail
    exact bodyPost_ret (v := .tuple #[insV ⟨0, 0, 0, 0⟩, .bool false]) (by simp [results, Tryz.results31, go_sem, hz0, hz1, hz2, hz3, insV]) rfl ⟨by rw [HNone.out]; rfl, hB0⟩
  · obtain ⟨p0, ps, hws⟩ : ∃ p0 ps, partsF 32 s = p0 :: ps := List.exists_cons_of_ne_nil (partsF_ne 32 s)
    have HPI : Hid (parseIF s = parseW (p0 :: ps)) := Lib.hid (by unfold parseIF; rw [if_neg hlen, hws])
    have hpl := partsF_len 32 s
    rw [hws] at hpl
    have hpl' : (p0 :: ps).length ≤ 61 := by omega
    have hpp : ∀ p ∈ p0 :: ps, p.length ≤ 60 := by
      intro p hp
      have h1 := splitK_part 32 (Lib.count s [32]) s p (by rw [(splitK_parts 32 _ s).1 (by have := count_parts 32 s.length s (Nat.le_refl _); omega), hws]; exact hp)
      omega
    have HPP := Lib.hid hpp
    have hP := split1_call s (w.alloc (.cells #[.int .i64 0, .int .i64 0, .int .i64 0, .int .i64 0] 37)) hs (HE.out.below hB0 (Nat.le_refl _)).env.max
    rw [hws] at hP
    obtain ⟨ws, hW⟩ : ∃ ws, p0 :: ps = ws := ⟨_, rfl⟩
    have hwl : ws.length = 1 + ps.length := by rw [← hW]; simp; omega
    have hw0 : ws[0]? = some p0 := by rw [← hW]; rfl
    have hwk : ∀ k, ws[1 + k]? = ps[k]? := by intro k; rw [← hW, Nat.add_comm]; rfl
    rw [hW] at hP hpl' HPP
    rw [World.size_alloc] at hP
    have HP := Lib.hid hP
    have HW := Lib.hid hW
    have HWK := Lib.hid hwk
    have HW0 := Lib.hid hw0
    have HWL := Lib.hid hwl
    have hwp : 0 < ws.length := by omega
    clear hP hW hwk hws hpl hpp hw0 hwl
    go_enter Tryz.func31, Tryz.ntmps31
    go_wp2_with fail
    refine HP.out.mono ?_
    rintro e w1 ⟨rfl, hl1, hb1, hc1⟩
    have kA1 := kA0.below hb1 (Nat.lt_succ_self _)
    have hB1 := hB0.trans (hb1.mono (Nat.le_succ _))
    have HC1 := Lib.hid hc1
    have hp0 := hc1 0 p0 HW0.out
    clear hc1 hb1 hB0 kA0
    have hNmd := impl_opNamed p0 w1 (HE.out.below hB1 (Nat.le_refl _)).names
    have HNmd := Lib.hid hNmd
    clear hNmd
    go_wp2_with fail
    refine HNmd.out.mono ?_
    rintro e w2 ⟨hans, hb2⟩
    have kA2 := kA1.below hb2 kA1.lt
    have kAl := kA2.lt
    have hB2 := hB1.trans (hb2.mono hB1.size)
    have hl2 : w.heap.size + 1 < w2.heap.size := Nat.lt_of_lt_of_le hl1 hb2.size
    have HC2 : Hid (∀ j p, ws[j]? = some p → w2.cell? ⟨w.heap.size + 1, j, none⟩ = some (str p)) := Lib.hid fun j p hp => (hb2.cell (p := ⟨w.heap.size + 1, j, none⟩) hl1).trans (HC1.out j p hp)
    clear hp0 hb2 kA1 hB1
    rcases hans with ⟨k, hk9, hkp, rfl⟩ | ⟨hno, rfl⟩
    · have hin : inB (k : Int) 0 8 = true := by simp [inB]; omega
      have hfl := formF_len (k : Int)
      have HM := Lib.hid (formF_mem hin)
      have hoff := offs_form hin
      obtain ⟨f, hf⟩ : ∃ f, formF (k : Int) = f := ⟨_, rfl⟩
      rw [hf] at hfl HM hoff
      have HPW : Hid (parseIF s = if ps.length = f.length then (ps.mapM valF).map (buildI k f) else none) := Lib.hid (by rw [HPI.out, parseW_named hk9 hkp, hf])
      have kC2 := Bk.new w2 #[.int .i64 (k : Int), .int .i64 0, .int .i64 0, .int .i64 0] 37
      have hOpr := impl_operands w2.heap.size ⟨(k : Int), 0, 0, 0⟩ _ kC2
      rw [hoff] at hOpr
      have HOpr := Lib.hid hOpr
      have hfm : (f.map offC).length = f.length := by simp
      have HFM := Lib.hid hfm
      have hB2C := (Below.refl w2.heap.size w2).alloc (Nat.le_refl _) (.cells #[.int .i64 (k : Int), .int .i64 0, .int .i64 0, .int .i64 0] 37)
      clear hin hoff hf hOpr hkp hfm
      go_wp2_with fail
      refine HOpr.out.mono ?_
      rintro e w3 ⟨v3, rfl, hO3, hb3⟩
      rw [HFM.out, World.size_alloc] at hO3
      have kC3 := kC2.below hb3 kC2.lt
      have hB3C := hB2C.trans (hb3.mono hB2C.size)
      obtain ⟨A3, c3, rfl, hc3, hcm3⟩ := owns_slice hO3
      clear hb3 kC2 hB2C
      by_cases hl : ps.length = f.length
      · have HPW2 : Hid (parseIF s = (ps.mapM valF).map (buildI k f)) := Lib.hid (by rw [HPW.out, if_pos hl])
        have hlz : ((ws.length : Int) != 1 + (f.length : Int)) = false := by have := HWL.out; simp; omega
        have HPS := Lib.hid hl
        clear hl
        go_wp2_with fail
        go_loopw [42] (fun i wr => ∃ (m : Nat) (I : Ins) (vs : List Int), m ≤ f.length ∧ i = .int .i64 m ∧ Hid (vs.length = m ∧ (ps.take m).mapM valF = some vs ∧ I = buildI k (f.take m) vs) ∧
          Bk wr w2.heap.size #[.int .i64 I.o, .int .i64 I.r, .int .i64 I.s, .int .i64 I.n] 37 ∧ wr.ownsRow (w2.heap.size + 1) 95 1 (.slice A3 f.length c3) f.length (ptrs w2.heap.size (f.map offC)) ∧ Below w2.heap.size w2 wr) (fun i _ => f.length - (intOf i).toNat)
        case atStart => exact ⟨0, ⟨k, 0, 0, 0⟩, [], Nat.zero_le _, rfl, Lib.hid ⟨rfl, by simp, by simp [buildI]⟩, kC3, hO3, hB3C⟩
        case round =>
          obtain ⟨m, ⟨Io, Ir, Is, In⟩, vs, hm, rfl, HI, kC, hO, hBc⟩ := hrel
          clear kC3 hB3C hO3
          simp only at kC
          have hBz := hB2.trans (hBc.mono hB2.size)
          have kAx := kA2.below hBc kAl
          have kCl := kC.lt
          by_cases hmf : m < f.length
          · obtain ⟨c, hc⟩ := opt_at hmf
            obtain ⟨pm, hpm⟩ : ∃ pm, ps[m]? = some pm := ⟨_, List.getElem?_eq_getElem (by have := HPS.out; omega)⟩
            have hwm : ws[1 + m]? = some pm := by rw [HWK.out]; exact hpm
            have hcw := (hBc.cell (p := ⟨w.heap.size + 1, 1 + m, none⟩) hl2).trans (HC2.out _ _ hwm)
            have hpl := HPP.out pm (List.mem_of_getElem? hwm)
            have hm1 : 1 + m < ws.length := (List.getElem?_eq_some_iff.1 hwm).1
            have hcm := HM.out c (List.mem_of_getElem? hc)
            obtain ⟨b3, rfl⟩ := owns_formP hO (by omega)
            have hb3l := (hO.lt b3 rfl).2
            have hpc : wr.cell? ⟨b3, m, none⟩ = some (.pointer (some ⟨w2.heap.size, offC c, none⟩)) := (hO.cellAt m (by omega)).trans (by simp [ptrs, hc])
            obtain ⟨jc, hjc⟩ : ∃ jc, offC c = jc := ⟨_, rfl⟩
            rw [hjc] at hpc
            have HJ := Lib.hid hjc
            clear hjc
            have hRd := impl_parseNumber pm wr (by omega) (HE.out.below hBz (Nat.le_refl _)).env.tab (HE.out.below hBz (Nat.le_refl _)).env.errs
            have HCc := Lib.hid hc
            have HPM := Lib.hid hpm
            clear hc hpm hwm
            cases hrf : parseF pm with
            | none =>
              have HNone : Hid (parseIF s = none) := Lib.hid (by
                rw [HPW2.out, mapM_none HPM.out (show valF pm = none by
                  cases hv : valF pm with
                  | none => rfl
                  | some v => rw [(valF_parse.1 hv).1] at hrf; cases hrf)]
                rfl)
              rw [hrf] at hRd
              have HRd := Lib.hid hRd
              clear hRd hrf
              go_wp2_with fail
              refine HRd.out.mono ?_
              rintro e w5 ⟨rfl, hb5⟩
              have kAx := kAx.below hb5 kAx.lt
              have hBz := hBz.trans (hb5.mono hBz.size)
              obtain ⟨hz0, hf0⟩ := kAx.at_ 0 rfl
              obtain ⟨hz1, hf1⟩ := kAx.at_ 1 rfl
              obtain ⟨hz2, hf2⟩ := kAx.at_ 2 rfl
              obtain ⟨hz3, hf3⟩ := kAx.at_ 3 rfl
              go_wp2_with fail
              have kF := (((kAx.set_ 0 (.int .i64 0)).set_ 1 (.int .i64 0)).set_ 2 (.int .i64 0)).set_ 3 (.int .i64 0)
              obtain ⟨hr0, -⟩ := kF.at_ 0 rfl
              obtain ⟨hr1, -⟩ := kF.at_ 1 rfl
              obtain ⟨hr2, -⟩ := kF.at_ 2 rfl
              obtain ⟨hr3, -⟩ := kF.at_ 3 rfl
              exact bodyPost_ret (v := .tuple #[insV ⟨0, 0, 0, 0⟩, .bool false]) (by simp [results, Tryz.results31, go_sem, hr0, hr1, hr2, hr3, insV]) rfl ⟨by rw [HNone.out]; rfl,
                (((hBz.setCell (p := ⟨w.heap.size, 0, none⟩) (Nat.le_refl _) _).setCell (p := ⟨w.heap.size, 1, none⟩) (Nat.le_refl _) _).setCell (p := ⟨w.heap.size, 2, none⟩) (Nat.le_refl _) _).setCell (p := ⟨w.heap.size, 3, none⟩) (Nat.le_refl _) _⟩
            | some x =>
              rw [hrf] at hRd
              have HRd := Lib.hid hRd
              have hval := impl_valueOk x
              cases hvb : valB x
              · have HNone : Hid (parseIF s = none) := Lib.hid (by
                  rw [HPW2.out, mapM_none HPM.out (show valF pm = none by
                    cases hv : valF pm with
                    | none => rfl
                    | some v =>
                      obtain ⟨h1, h2⟩ := valF_parse.1 hv
                      rw [hrf] at h1
                      injection h1 with h1
                      subst h1
                      rw [hvb] at h2
                      cases h2)]
                  rfl)
                rw [hvb] at hval
                have HVal := Lib.hid hval
                clear hRd hrf hval hvb
                go_wp2_with fail
                refine HRd.out.mono ?_
                rintro e w5 ⟨rfl, hb5⟩
                have kAx := kAx.below hb5 kAx.lt
                have hBz := hBz.trans (hb5.mono hBz.size)
                go_wp2_with fail
                refine (HVal.out _).mono ?_
                rintro e w6 ⟨rfl, rfl⟩
                obtain ⟨hz0, hf0⟩ := kAx.at_ 0 rfl
                obtain ⟨hz1, hf1⟩ := kAx.at_ 1 rfl
                obtain ⟨hz2, hf2⟩ := kAx.at_ 2 rfl
                obtain ⟨hz3, hf3⟩ := kAx.at_ 3 rfl
                go_wp2_with fail
                have kF := (((kAx.set_ 0 (.int .i64 0)).set_ 1 (.int .i64 0)).set_ 2 (.int .i64 0)).set_ 3 (.int .i64 0)
                obtain ⟨hr0, -⟩ := kF.at_ 0 rfl
                obtain ⟨hr1, -⟩ := kF.at_ 1 rfl
                obtain ⟨hr2, -⟩ := kF.at_ 2 rfl
                obtain ⟨hr3, -⟩ := kF.at_ 3 rfl
                exact bodyPost_ret (v := .tuple #[insV ⟨0, 0, 0, 0⟩, .bool false]) (by simp [results, Tryz.results31, go_sem, hr0, hr1, hr2, hr3, insV]) rfl ⟨by rw [HNone.out]; rfl,
                  (((hBz.setCell (p := ⟨w.heap.size, 0, none⟩) (Nat.le_refl _) _).setCell (p := ⟨w.heap.size, 1, none⟩) (Nat.le_refl _) _).setCell (p := ⟨w.heap.size, 2, none⟩) (Nat.le_refl _) _).setCell (p := ⟨w.heap.size, 3, none⟩) (Nat.le_refl _) _⟩
              · have hvp : valF pm = some x := valF_parse.2 ⟨hrf, hvb⟩
                rw [hvb] at hval
                have HVal := Lib.hid hval
                have HNX : Hid ((vs ++ [x]).length = m + 1 ∧ (ps.take (m + 1)).mapM valF = some (vs ++ [x]) ∧ setF ⟨Io, Ir, Is, In⟩ c x = buildI k (f.take (m + 1)) (vs ++ [x])) := Lib.hid (by
                  obtain ⟨h1, h2, h3⟩ := HI.out
                  exact ⟨by simp [h1], mapM_snoc h2 HPM.out hvp, by rw [buildI_snoc HCc.out h1, h3]⟩)
                clear hRd hrf hval hvb hvp
                go_wp2_with fail
                refine HRd.out.mono ?_
                rintro e w5 ⟨rfl, hb5⟩
                have kC5 := kC.below hb5 kCl
                have hB5 := hBc.trans (hb5.mono hBc.size)
                have hO5 := ownsRow_below hO hb5
                clear kC hO
                go_wp2_with fail
                refine (HVal.out _).mono ?_
                rintro e w6 ⟨rfl, rfl⟩
                rcases hcm with rfl | rfl | rfl
                · obtain rfl : jc = 1 := by rw [← HJ.out]; rfl
                  obtain ⟨hcc, hcf⟩ := kC5.at_ 1 rfl
                  clear hpc
                  go_wp2_with fail
                  exact ⟨⟨m + 1, setF ⟨Io, Ir, Is, In⟩ 114 x, vs ++ [x], by omega, by go_num, HNX, kC5.set_ 1 (.int .i64 x), Go.RowKit.ownsRow_setCell_below hO5 (a := ⟨w2.heap.size, 1, none⟩) (by show w2.heap.size < w2.heap.size + 1; omega) (.int .i64 x), hB5.setCell (p := ⟨w2.heap.size, 1, none⟩) (Nat.le_refl _) (.int .i64 x)⟩, by simp [intOf]; omega⟩
                · obtain rfl : jc = 2 := by rw [← HJ.out]; rfl
                  obtain ⟨hcc, hcf⟩ := kC5.at_ 2 rfl
                  clear hpc
                  go_wp2_with fail
                  exact ⟨⟨m + 1, setF ⟨Io, Ir, Is, In⟩ 115 x, vs ++ [x], by omega, by go_num, HNX, kC5.set_ 2 (.int .i64 x), Go.RowKit.ownsRow_setCell_below hO5 (a := ⟨w2.heap.size, 2, none⟩) (by show w2.heap.size < w2.heap.size + 1; omega) (.int .i64 x), hB5.setCell (p := ⟨w2.heap.size, 2, none⟩) (Nat.le_refl _) (.int .i64 x)⟩, by simp [intOf]; omega⟩
                · obtain rfl : jc = 3 := by rw [← HJ.out]; rfl
                  obtain ⟨hcc, hcf⟩ := kC5.at_ 3 rfl
                  clear hpc
                  go_wp2_with fail
                  exact ⟨⟨m + 1, setF ⟨Io, Ir, Is, In⟩ 110 x, vs ++ [x], by omega, by go_num, HNX, kC5.set_ 3 (.int .i64 x), Go.RowKit.ownsRow_setCell_below hO5 (a := ⟨w2.heap.size, 3, none⟩) (by show w2.heap.size < w2.heap.size + 1; omega) (.int .i64 x), hB5.setCell (p := ⟨w2.heap.size, 3, none⟩) (Nat.le_refl _) (.int .i64 x)⟩, by simp [intOf]; omega⟩
          · obtain rfl : m = f.length := by omega
            have HSome : Hid (parseIF s = some ⟨Io, Ir, Is, In⟩) := Lib.hid (by
              obtain ⟨h1, h2, h3⟩ := HI.out
              rw [List.take_of_length_le (by have := HPS.out; omega)] at h2
              rw [List.take_length] at h3
              rw [HPW2.out, h2, h3]
              rfl)
            obtain ⟨hi0, -⟩ := kC.at_ 0 rfl
            obtain ⟨hi1, -⟩ := kC.at_ 1 rfl
            obtain ⟨hi2, -⟩ := kC.at_ 2 rfl
            obtain ⟨hi3, -⟩ := kC.at_ 3 rfl
            obtain ⟨hz0, hf0⟩ := kAx.at_ 0 rfl
            obtain ⟨hz1, hf1⟩ := kAx.at_ 1 rfl
            obtain ⟨hz2, hf2⟩ := kAx.at_ 2 rfl
            obtain ⟨hz3, hf3⟩ := kAx.at_ 3 rfl
            go_wp2_with fail
            have kF := (((kAx.set_ 0 (.int .i64 Io)).set_ 1 (.int .i64 Ir)).set_ 2 (.int .i64 Is)).set_ 3 (.int .i64 In)
            obtain ⟨hr0, -⟩ := kF.at_ 0 rfl
            obtain ⟨hr1, -⟩ := kF.at_ 1 rfl
            obtain ⟨hr2, -⟩ := kF.at_ 2 rfl
            obtain ⟨hr3, -⟩ := kF.at_ 3 rfl
            exact bodyPost_ret (v := .tuple #[insV ⟨Io, Ir, Is, In⟩, .bool true]) (by simp [results, Tryz.results31, go_sem, hr0, hr1, hr2, hr3, insV]) rfl ⟨by rw [HSome.out]; rfl,
              (((hBz.setCell (p := ⟨w.heap.size, 0, none⟩) (Nat.le_refl _) _).setCell (p := ⟨w.heap.size, 1, none⟩) (Nat.le_refl _) _).setCell (p := ⟨w.heap.size, 2, none⟩) (Nat.le_refl _) _).setCell (p := ⟨w.heap.size, 3, none⟩) (Nat.le_refl _) _⟩
      · have HNone : Hid (parseIF s = none) := Lib.hid (by rw [HPW.out, if_neg hl])
        have hlz : ((ws.length : Int) != 1 + (f.length : Int)) = true := by have := HWL.out; simp; omega
        have kAx := kA2.below hB3C kAl
        have hBz := hB2.trans (hB3C.mono hB2.size)
        clear hl
        obtain ⟨hz0, hf0⟩ := kAx.at_ 0 rfl
        obtain ⟨hz1, hf1⟩ := kAx.at_ 1 rfl
        obtain ⟨hz2, hf2⟩ := kAx.at_ 2 rfl
        obtain ⟨hz3, hf3⟩ := kAx.at_ 3 rfl
        go_wp2_with fail
        have kF := (((kAx.set_ 0 (.int .i64 0)).set_ 1 (.int .i64 0)).set_ 2 (.int .i64 0)).set_ 3 (.int .i64 0)
        obtain ⟨hr0, -⟩ := kF.at_ 0 rfl
        obtain ⟨hr1, -⟩ := kF.at_ 1 rfl
        obtain ⟨hr2, -⟩ := kF.at_ 2 rfl
        obtain ⟨hr3, -⟩ := kF.at_ 3 rfl
        exact bodyPost_ret (v := .tuple #[insV ⟨0, 0, 0, 0⟩, .bool false]) (by simp [results, Tryz.results31, go_sem, hr0, hr1, hr2, hr3, insV]) rfl ⟨by rw [HNone.out]; rfl,
          (((hBz.setCell (p := ⟨w.heap.size, 0, none⟩) (Nat.le_refl _) _).setCell (p := ⟨w.heap.size, 1, none⟩) (Nat.le_refl _) _).setCell (p := ⟨w.heap.size, 2, none⟩) (Nat.le_refl _) _).setCell (p := ⟨w.heap.size, 3, none⟩) (Nat.le_refl _) _⟩
    · have HNone : Hid (parseIF s = none) := Lib.hid (by rw [HPI.out, parseW_no hno])
      have kC2 := Bk.new w2 #[.int .i64 0, .int .i64 0, .int .i64 0, .int .i64 0] 37
      have HOpr := Lib.hid (impl_operands w2.heap.size ⟨0, 0, 0, 0⟩ _ kC2)
      have hB2C := (Below.refl w2.heap.size w2).alloc (Nat.le_refl _) (.cells #[.int .i64 0, .int .i64 0, .int .i64 0, .int .i64 0] 37)
      clear hno
      go_wp2_with fail
      refine HOpr.out.mono ?_
      rintro e w3 ⟨v3, rfl, hO3, hb3⟩
      have hB3C := hB2C.trans (hb3.mono hB2C.size)
      have kAx := kA2.below hB3C kAl
      have hBz := hB2.trans (hB3C.mono hB2.size)
      obtain ⟨A3, c3, rfl, hc3, hcm3⟩ := owns_slice hO3
      obtain ⟨hz0, hf0⟩ := kAx.at_ 0 rfl
      obtain ⟨hz1, hf1⟩ := kAx.at_ 1 rfl
      obtain ⟨hz2, hf2⟩ := kAx.at_ 2 rfl
      obtain ⟨hz3, hf3⟩ := kAx.at_ 3 rfl
      go_wp2_with fail
      have kF := (((kAx.set_ 0 (.int .i64 0)).set_ 1 (.int .i64 0)).set_ 2 (.int .i64 0)).set_ 3 (.int .i64 0)
      obtain ⟨hr0, -⟩ := kF.at_ 0 rfl
      obtain ⟨hr1, -⟩ := kF.at_ 1 rfl
      obtain ⟨hr2, -⟩ := kF.at_ 2 rfl
      obtain ⟨hr3, -⟩ := kF.at_ 3 rfl
      exact bodyPost_ret (v := .tuple #[insV ⟨0, 0, 0, 0⟩, .bool false]) (by simp [results, Tryz.results31, go_sem, hr0, hr1, hr2, hr3, insV]) rfl ⟨by rw [HNone.out]; rfl,
        (((hBz.setCell (p := ⟨w.heap.size, 0, none⟩) (Nat.le_refl _) _).setCell (p := ⟨w.heap.size, 1, none⟩) (Nat.le_refl _) _).setCell (p := ⟨w.heap.size, 2, none⟩) (Nat.le_refl _) _).setCell (p := ⟨w.heap.size, 3, none⟩) (Nat.le_refl _) _⟩
end Go.Proofs.YtgbgjlmkmlhefaaGreatDoor

/- The two contracts of ParseInstr, their answers named. -/
namespace Go.Proofs.YtgbgjlmkmlhefaaGreatDoor
set_option maxRecDepth 20000
set_option linter.unusedSimpArgs false
set_option linter.unusedVariables false
open Go.ChangeShapes Go.WideShapes Go.ChangeAt Go.RowKit
theorem spec_PI (s : List UInt8) (w : World) (rx : Ins) (rb : Bool) (hs : s.length ≤ 1048576) (h1 : (parseIF s).getD ⟨0, 0, 0, 0⟩ = rx) (h2 : (parseIF s).isSome = rb) :
    Calls Tryz.prog 90 #[str s] w fun e w' => e = .returned (.tuple #[(Value.agg #[.int .i64 rx.o, .int .i64 rx.r, .int .i64 rx.s, .int .i64 rx.n]), .bool rb]) ∧ Below w.heap.size w w' := by
  have := spec_ParseInstr s w hs
  unfold RetInsB at this
  rw [h1, h2] at this
  exact this
theorem impl_PI (s : List UInt8) (w : World) (rx : Ins) (rb : Bool) (hs : s.length ≤ 1048576) (h1 : (parseIF s).getD ⟨0, 0, 0, 0⟩ = rx) (h2 : (parseIF s).isSome = rb) (hE : EnvP w) :
    Calls Tryz.prog 31 #[str s] w fun e w' => e = .returned (.tuple #[(Value.agg #[.int .i64 rx.o, .int .i64 rx.r, .int .i64 rx.s, .int .i64 rx.n]), .bool rb]) ∧ Below w.heap.size w w' := by
  have := impl_ParseInstr s w hs hE
  unfold RetInsB at this
  rw [h1, h2] at this
  exact this
end Go.Proofs.YtgbgjlmkmlhefaaGreatDoor
