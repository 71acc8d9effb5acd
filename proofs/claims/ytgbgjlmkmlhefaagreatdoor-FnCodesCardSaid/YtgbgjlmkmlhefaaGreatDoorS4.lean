/- Contract of spec.ParseCode: the code that a text is. Condition: the text's length is a string's. -/
import Derived.Test.YtgbgjlmkmlhefaaGreatDoorQ2
import Derived.Test.YtgbgjlmkmlhefaaGreatDoorS2e
import Derived.Deep.DeepCutAuto
namespace Go.Proofs.YtgbgjlmkmlhefaaGreatDoor
set_option maxRecDepth 20000
set_option linter.unusedSimpArgs false
set_option linter.unusedVariables false
open Go.ChangeShapes Go.WideShapes Go.ChangeAt Go.RowKit
set_option linter.unusedVariables false
/-- so far: the instructions of the first k parts -/
def Sofar (ps : List (List UInt8)) (k : Nat) (L : List Ins) : Prop := L.length = k ∧ ∀ j p x, j < k → ps[j]? = some p → L[j]? = some x → stepF j p = some x
theorem Sofar.snoc {ps : List (List UInt8)} {k : Nat} {L : List Ins} {p : List UInt8} {x : Ins} (h : Sofar ps k L) (hp : ps[k]? = some p) (hx : stepF k p = some x) : Sofar ps (k + 1) (L ++ [x]) := by
  obtain ⟨h1, h2⟩ := h
  refine ⟨by simp [h1], fun j q y hj hq hy => ?_⟩
  by_cases e : j = k
  · subst e
    rw [List.getElem?_append_right (by omega), h1, Nat.sub_self] at hy
    simp at hy
    subst hy
    rw [hp] at hq
    injection hq with hq
    subst hq
    exact hx
  · rw [List.getElem?_append_left (by omega)] at hy
    exact h2 j q y (by omega) hq hy
theorem code_none {s : List UInt8} {ps : List (List UInt8)} {k : Nat} {p : List UInt8} (hs : s ≠ []) (hps : partsF 59 s = ps) (hp : ps[k]? = some p) (hx : stepF k p = none) : codeCF s = none := by
  cases h : codeCF s with
  | none => rfl
  | some xs =>
    obtain ⟨-, -, h1, h2⟩ := code_to hs h
    rw [hps] at h1 h2
    have hk := (List.getElem?_eq_some_iff.1 hp).1
    have := h2 k p _ hp (List.getElem?_eq_getElem (by omega))
    rw [hx] at this
    cases this
theorem code_done {s : List UInt8} {ps : List (List UInt8)} {L : List Ins} (hs : s ≠ []) (hps : partsF 59 s = ps) (h : Sofar ps ps.length L) : codeCF s = if L.length ≤ 16 then some L else none := by
  have hg : Good (partsF 59 s) L := by
    rw [hps]
    exact ⟨h.1.symm, fun j p x hp hx => h.2 j p x (List.getElem?_eq_some_iff.1 hp).1 hp hx⟩
  split
  · exact code_from hs (by assumption) hg
  · cases hc : codeCF s with
    | none => rfl
    | some xs =>
      obtain ⟨-, h1, h2, -⟩ := code_to hs hc
      have := hg.1
      omega
set_option maxHeartbeats 6400000 in
theorem spec_ParseCode (s : List UInt8) (w : World) (hs : s.length ≤ 1048576) :
    Calls Tryz.prog 68 #[str s] w (RetCodeB ((codeCF s).getD []) (codeCF s).isSome w) := by
  have hO0 := owns_newCells w 37 4
  have hB0 := (Below.refl w.heap.size w).alloc (Nat.le_refl _) (.cells #[] 37)
  have hsz : (⟨s.toArray⟩ : ByteArray).size = s.length := by show s.toArray.size = _; simp
  cases hsc : s with
  | nil =>
    go_enter Tryz.func68, Tryz.ntmps68
    go_wp2_with fail
    exact bodyPost_ret (v := .tuple #[.slice none 0 0, .bool true]) (by simp [results, Tryz.results68, go_sem]) rfl ⟨_, [], by simp [codeCF], Own.nil _ _, by simp, hB0⟩
  | cons ch s' =>
    have hne : s ≠ [] := by rw [hsc]; simp
    have hsl : s.length = s'.length + 1 := by rw [hsc]; simp
    have HSC := Lib.hid hsc
    by_cases hlen : 992 < s.length
    · have HF : Hid (codeCF s = none) := Lib.hid (by
        cases h : codeCF s with
        | none => rfl
        | some xs => have := (code_to hne h).1; omega)
      rw [hsc] at HF
      have hl2 : (992 : Int) < (s'.length : Int) + 1 := by omega
      clear hsc hne hlen
      go_enter Tryz.func68, Tryz.ntmps68
      go_wp2_with fail
      exact bodyPost_ret (v := .tuple #[.slice none 0 0, .bool false]) (by simp [results, Tryz.results68, go_sem]) rfl ⟨_, [], by rw [HF.out]; rfl, by rw [HF.out]; exact Own.nil _ _, by simp, hB0⟩
    · have hP := l01PartsO s 59 (w.alloc (.cells #[] 37)) hs
      obtain ⟨ps, hps⟩ : ∃ ps, partsF 59 s = ps := ⟨_, rfl⟩
      have hpl := partsF_len 59 s
      have hpp : ∀ p ∈ ps, p.length ≤ 992 := by
        intro p hp
        have h1 := splitK_part 59 (Lib.count s [59]) s p (by rw [(splitK_parts 59 _ s).1 (by have := count_parts 59 s.length s (Nat.le_refl _); omega), hps]; exact hp)
        omega
      rw [hps] at hP hpl
      have hpl2 : ps.length ≤ 993 := by omega
      obtain ⟨s2, hs2⟩ : ∃ s2, codeCF s = s2 := ⟨_, rfl⟩
      have HNo : Hid (∀ k p, ps[k]? = some p → stepF k p = none → s2 = none) := Lib.hid fun k p hp hx => by rw [← hs2]; exact code_none hne hps hp hx
      have HDo : Hid (∀ L, Sofar ps ps.length L → s2 = if L.length ≤ 16 then some L else none) := Lib.hid fun L h => by rw [← hs2]; exact code_done hne hps h
      rw [← hsc, hs2]
      have HP := Lib.hid hP
      have HPP := Lib.hid hpp
      have hl2 : ¬ (992 : Int) < (s'.length : Int) + 1 := by omega
      rw [hsc] at HP ⊢
      obtain ⟨i, hi, hiz0, hiz1, hiz2⟩ := info_parts infoIns
      clear hP hps hpl hsc hne hlen hs2 hpp hsz HSC
      go_enter Tryz.func68, Tryz.ntmps68
      go_wp2_with fail
      refine HP.out.mono ?_
      rintro e w1 ⟨v1, rfl, hO1, hb1⟩
      obtain ⟨A1, c1, rfl, hnc1, hcm1⟩ := owns_slice hO1
      have hW1 := owns_mono hO1 (show w.heap.size ≤ (w.alloc (.cells #[] 37)).heap.size by simp)
      have hO1' := ownsRow_below hO0 hb1
      have hB1 := hB0.trans (hb1.mono hB0.size)
      clear hO1 hO0 hB0 hb1
      go_wp2_with fail
      go_loopw [4, 6] (fun vo j wr => ∃ (k : Nat) (L : List Ins), k ≤ ps.length ∧ j = .int .i64 k ∧ L.length ≤ k ∧ Hid (Sofar ps k L) ∧ wr.ownsRow w.heap.size 37 4 vo L.length (flc L) ∧
        wr.ownsRow w.heap.size 9 1 (.slice A1 ps.length c1) ps.length (strs ps) ∧ Below w.heap.size w wr) (fun _ j _ => ps.length - (intOf j).toNat)
      case atStart => exact ⟨0, [], Nat.zero_le _, rfl, Nat.le_refl _, Lib.hid ⟨rfl, fun j p x hj => by omega⟩, hO1', hW1, hB1⟩
      case round =>
        obtain ⟨k, L, hk, rfl, hL, HL, hO, hW, hB⟩ := hrel
        clear hO1' hW1 hB1
        obtain ⟨AO, cO, rfl, hcO, hcOm⟩ := owns_slice hO
        by_cases hlt : k < ps.length
        · obtain ⟨g1, rfl⟩ := owns_formP hW (by omega)
          obtain ⟨p, hp⟩ := opt_at hlt
          have hpc : wr.cell? ⟨g1, k, none⟩ = some (str p) := (hW.cellAt k (by omega)).trans (by simp [strs, hp])
          have hpl := HPP.out p (List.mem_of_getElem? hp)
          have HPk := Lib.hid hp
          clear hp
          by_cases h0 : k = 0
          · have HST : Hid (stepF k p = parseIF p) := Lib.hid (by rw [h0, stepF_zero])
            have hz : ¬ 0 < k := by omega
            clear h0
            have hPI := spec_ParseInstr p wr (by omega)
            unfold RetInsB at hPI
            cases ho : parseIF p with
            | none =>
              have HNone : Hid (s2 = none) := Lib.hid (HNo.out k p HPk.out (by rw [HST.out]; exact ho))
              rw [ho] at hPI
              have HPI : Hid (Calls Tryz.prog 90 #[str p] wr fun e w' => e = .returned (.tuple #[.agg #[.int .i64 0, .int .i64 0, .int .i64 0, .int .i64 0], .bool false]) ∧ Below wr.heap.size wr w') := Lib.hid hPI
              clear hPI ho
              go_wp2_with fail
              refine HPI.out.mono ?_
              rintro e w5 ⟨rfl, hb5⟩
              have hB5 := hB.trans (hb5.mono hB.size)
              go_wp2_with fail
              exact bodyPost_ret (v := .tuple #[.slice none 0 0, .bool false]) (by simp [results, Tryz.results68, go_sem]) rfl ⟨_, [], by rw [HNone.out]; rfl, by rw [HNone.out]; exact Own.nil _ _, by simp, hB5.alloc hB5.size _⟩
            | some x =>
              have HL' := Lib.hid (HL.out.snoc HPk.out (by rw [HST.out]; exact ho))
              rw [ho] at hPI
              obtain ⟨xo, xr, xsS, xn⟩ := x
              have hPI2 : Calls Tryz.prog 90 #[str p] wr fun e w' => e = .returned (.tuple #[.agg #[.int .i64 xo, .int .i64 xr, .int .i64 xsS, .int .i64 xn], .bool true]) ∧ Below wr.heap.size wr w' := hPI
              have HPI := Lib.hid hPI2
              clear hPI hPI2 ho
              go_wp2_with fail
              refine HPI.out.mono ?_
              rintro e w5 ⟨rfl, hb5⟩
              have hB5 := (hB.trans (hb5.mono hB.size))
              have hB5a := hB5.alloc hB5.size (.cells #[.int .i64 xo, .int .i64 xr, .int .i64 xsS, .int .i64 xn] 37)
              have hO5 := (ownsRow_below hO hb5).alloc (.cells #[.int .i64 xo, .int .i64 xr, .int .i64 xsS, .int .i64 xn] 37)
              have hW5 := (ownsRow_below hW hb5).alloc (.cells #[.int .i64 xo, .int .i64 xr, .int .i64 xsS, .int .i64 xn] 37)
              have k5 := Bk.new w5 #[.int .i64 xo, .int .i64 xr, .int .i64 xsS, .int .i64 xn] 37
              obtain ⟨wv, hwv⟩ : ∃ wv, w5.alloc (.cells #[.int .i64 xo, .int .i64 xr, .int .i64 xsS, .int .i64 xn] 37) = wv := ⟨_, rfl⟩
              rw [hwv] at hB5a hO5 hW5 k5
              have HWV := Lib.hid hwv
              clear hO hW hb5 hwv hpc
              go_upto_region 18 with (fail)
              rw [HWV.out]
              obtain ⟨hk0, -⟩ := k5.at_ 0 rfl
              obtain ⟨hk1, -⟩ := k5.at_ 1 rfl
              obtain ⟨hk2, -⟩ := k5.at_ 2 rfl
              obtain ⟨hk3, -⟩ := k5.at_ 3 rfl
              have hL993 : L.length ≤ 993 := by omega
              go_wp2_with (at_builtin; refine wpList_append_own _ rfl _ _ 31 rfl (w.heap.size) 37 i (.agg #[.int .i64 0, .int .i64 0, .int .i64 0, .int .i64 0]) 4 32 Tryz.underlying31 hi hiz0 hiz1 hiz2 rfl (by decide) _ _ _ rfl (hO5.alloc _) ⟨wv.heap.size, 0, none⟩ 1 1 [.int .i64 xo, .int .i64 xr, .int .i64 xsS, .int .i64 xn] rfl rfl (new_cells _ _ _) (by simp [Value.oneCell']) (by unfold maxLen; omega) (by omega) (by have := hB5a.size; simp; omega) ?_)
              intro vo6 w6 ho6 hg6 _
              have hB6 := (hB5a.alloc hB5a.size _).grown hg6 (by have := hB5a.size; simp; omega) (fun k hk => by have := (hO5.lt k hk).1; omega)
              have hO6 := owns_snocI (x := ⟨xo, xr, xsS, xn⟩) ho6
              have hW6 := (hW5.alloc (.cells #[.int .i64 xo, .int .i64 xr, .int .i64 xsS, .int .i64 xn] 37)).kept hg6 (own_ne (hW5.alloc (.cells #[.int .i64 xo, .int .i64 xr, .int .i64 xsS, .int .i64 xn] 37)) (hO5.alloc (.cells #[.int .i64 xo, .int .i64 xr, .int .i64 xsS, .int .i64 xn] 37)) (by decide))
              go_wp2_with fail
              exact ⟨⟨k + 1, L ++ [⟨xo, xr, xsS, xn⟩], by omega, by go_num, by simp; omega, HL', hO6, hW6, hB6⟩, by simp [intOf]; omega⟩
          · obtain ⟨k', hk'⟩ : ∃ k', k = k' + 1 := ⟨k - 1, by omega⟩
            have hz : 0 < k := by omega
            have HK := Lib.hid hk'
            clear h0 hk'
            cases p with
            | nil =>
              have HNone : Hid (s2 = none) := Lib.hid (HNo.out k [] HPk.out (by rw [HK.out]; simp [stepF]))
              go_wp2_with fail
              exact bodyPost_ret (v := .tuple #[.slice none 0 0, .bool false]) (by simp [results, Tryz.results68, go_sem]) rfl ⟨_, [], by rw [HNone.out]; rfl, by rw [HNone.out]; exact Own.nil _ _, by simp, hB⟩
            | cons cc r =>
              have hel : ((⟨(cc :: r).toArray⟩ : ByteArray)[0]'(by show 0 < (cc :: r).toArray.size; simp)) = cc := rfl
              by_cases h32 : cc = 32
              · subst h32
                have HST : Hid (stepF k (32 :: r) = parseIF r) := Lib.hid (by rw [HK.out, stepF_succ])
                have hq : ((((⟨(32 :: r).toArray⟩ : ByteArray)[0]'(by show 0 < (32 :: r).toArray.size; simp)).toNat : Int) != 32) = false := rfl
                simp only [List.length_cons] at hpl
                clear hel
                have hPI := spec_ParseInstr r wr (by omega)
                unfold RetInsB at hPI
                cases ho : parseIF r with
                | none =>
                  have HNone : Hid (s2 = none) := Lib.hid (HNo.out k (32 :: r) HPk.out (by rw [HST.out]; exact ho))
                  rw [ho] at hPI
                  have HPI : Hid (Calls Tryz.prog 90 #[str r] wr fun e w' => e = .returned (.tuple #[.agg #[.int .i64 0, .int .i64 0, .int .i64 0, .int .i64 0], .bool false]) ∧ Below wr.heap.size wr w') := Lib.hid hPI
                  clear hPI ho
                  go_wp2_with fail
                  rw [ext_tail]
                  refine HPI.out.mono ?_
                  rintro e w5 ⟨rfl, hb5⟩
                  have hB5 := hB.trans (hb5.mono hB.size)
                  go_wp2_with fail
                  exact bodyPost_ret (v := .tuple #[.slice none 0 0, .bool false]) (by simp [results, Tryz.results68, go_sem]) rfl ⟨_, [], by rw [HNone.out]; rfl, by rw [HNone.out]; exact Own.nil _ _, by simp, hB5.alloc hB5.size _⟩
                | some x =>
                  have HL' := Lib.hid (HL.out.snoc HPk.out (by rw [HST.out]; exact ho))
                  rw [ho] at hPI
                  obtain ⟨xo, xr, xsS, xn⟩ := x
                  have hPI2 : Calls Tryz.prog 90 #[str r] wr fun e w' => e = .returned (.tuple #[.agg #[.int .i64 xo, .int .i64 xr, .int .i64 xsS, .int .i64 xn], .bool true]) ∧ Below wr.heap.size wr w' := hPI
                  have HPI := Lib.hid hPI2
                  clear hPI hPI2 ho
                  go_wp2_with fail
                  rw [ext_tail]
                  refine HPI.out.mono ?_
                  rintro e w5 ⟨rfl, hb5⟩
                  have hB5 := (hB.trans (hb5.mono hB.size))
                  have hB5a := hB5.alloc hB5.size (.cells #[.int .i64 xo, .int .i64 xr, .int .i64 xsS, .int .i64 xn] 37)
                  have hO5 := (ownsRow_below hO hb5).alloc (.cells #[.int .i64 xo, .int .i64 xr, .int .i64 xsS, .int .i64 xn] 37)
                  have hW5 := (ownsRow_below hW hb5).alloc (.cells #[.int .i64 xo, .int .i64 xr, .int .i64 xsS, .int .i64 xn] 37)
                  have k5 := Bk.new w5 #[.int .i64 xo, .int .i64 xr, .int .i64 xsS, .int .i64 xn] 37
                  obtain ⟨wv, hwv⟩ : ∃ wv, w5.alloc (.cells #[.int .i64 xo, .int .i64 xr, .int .i64 xsS, .int .i64 xn] 37) = wv := ⟨_, rfl⟩
                  rw [hwv] at hB5a hO5 hW5 k5
                  have HWV := Lib.hid hwv
                  clear hO hW hb5 hwv hpc
                  go_upto_region 18 with (fail)
                  rw [HWV.out]
                  obtain ⟨hk0, -⟩ := k5.at_ 0 rfl
                  obtain ⟨hk1, -⟩ := k5.at_ 1 rfl
                  obtain ⟨hk2, -⟩ := k5.at_ 2 rfl
                  obtain ⟨hk3, -⟩ := k5.at_ 3 rfl
                  have hL993 : L.length ≤ 993 := by omega
                  go_wp2_with (at_builtin; refine wpList_append_own _ rfl _ _ 31 rfl (w.heap.size) 37 i (.agg #[.int .i64 0, .int .i64 0, .int .i64 0, .int .i64 0]) 4 32 Tryz.underlying31 hi hiz0 hiz1 hiz2 rfl (by decide) _ _ _ rfl (hO5.alloc _) ⟨wv.heap.size, 0, none⟩ 1 1 [.int .i64 xo, .int .i64 xr, .int .i64 xsS, .int .i64 xn] rfl rfl (new_cells _ _ _) (by simp [Value.oneCell']) (by unfold maxLen; omega) (by omega) (by have := hB5a.size; simp; omega) ?_)
                  intro vo6 w6 ho6 hg6 _
                  have hB6 := (hB5a.alloc hB5a.size _).grown hg6 (by have := hB5a.size; simp; omega) (fun k hk => by have := (hO5.lt k hk).1; omega)
                  have hO6 := owns_snocI (x := ⟨xo, xr, xsS, xn⟩) ho6
                  have hW6 := (hW5.alloc (.cells #[.int .i64 xo, .int .i64 xr, .int .i64 xsS, .int .i64 xn] 37)).kept hg6 (own_ne (hW5.alloc (.cells #[.int .i64 xo, .int .i64 xr, .int .i64 xsS, .int .i64 xn] 37)) (hO5.alloc (.cells #[.int .i64 xo, .int .i64 xr, .int .i64 xsS, .int .i64 xn] 37)) (by decide))
                  go_wp2_with fail
                  exact ⟨⟨k + 1, L ++ [⟨xo, xr, xsS, xn⟩], by omega, by go_num, by simp; omega, HL', hO6, hW6, hB6⟩, by simp [intOf]; omega⟩
              · have HNone : Hid (s2 = none) := Lib.hid (HNo.out k (cc :: r) HPk.out (by rw [HK.out]; simp [stepF, h32]))
                have hq : ((((⟨(cc :: r).toArray⟩ : ByteArray)[0]'(by show 0 < (cc :: r).toArray.size; simp)).toNat : Int) != 32) = true := by
                  rw [hel]
                  simp only [bne_iff_ne, ne_eq]
                  intro h
                  exact h32 (UInt8.toNat_inj.1 (Int.ofNat.inj h))
                clear hel h32
                go_wp2_with fail
                exact bodyPost_ret (v := .tuple #[.slice none 0 0, .bool false]) (by simp [results, Tryz.results68, go_sem]) rfl ⟨_, [], by rw [HNone.out]; rfl, by rw [HNone.out]; exact Own.nil _ _, by simp, hB⟩
        · obtain rfl : k = ps.length := by omega
          have hD := HDo.out L HL.out
          obtain ⟨bs, h1, h2⟩ := Own.of_owns hO
          by_cases hbig : L.length ≤ 16
          · have HF : Hid (s2 = some L) := Lib.hid (by rw [hD, if_pos hbig])
            clear hD
            go_wp2_with fail
            exact bodyPost_ret (v := .tuple #[.slice AO L.length cO, .bool true]) (by simp [results, Tryz.results68, go_sem]) rfl ⟨_, bs, by rw [HF.out]; rfl, by rw [HF.out]; exact h1, h2, hB⟩
          · have HNone : Hid (s2 = none) := Lib.hid (by rw [hD, if_neg hbig])
            clear hD
            go_wp2_with fail
            exact bodyPost_ret (v := .tuple #[.slice none 0 0, .bool false]) (by simp [results, Tryz.results68, go_sem]) rfl ⟨_, [], by rw [HNone.out]; rfl, by rw [HNone.out]; exact Own.nil _ _, by simp, hB⟩
end Go.Proofs.YtgbgjlmkmlhefaaGreatDoor
