/- Contract of impl.ParseCode: it answers as the model does. Conditions: the text's length is a string's; the library's tables, the errors' variables and the table of names stand as written. -/
import Derived.Test.YtgbgjlmkmlhefaaGreatDoorS4
namespace Go.Proofs.YtgbgjlmkmlhefaaGreatDoor
set_option maxRecDepth 20000
set_option linter.unusedSimpArgs false
set_option linter.unusedVariables false
open Go.ChangeShapes Go.WideShapes Go.ChangeAt Go.RowKit
set_option linter.unusedVariables false
def codePart (L : List Ins) (n : Nat) : List Value := flc L ++ List.replicate ((n - L.length) * 4) (.int .i64 0)
theorem codePart_zero (n : Nat) : (madeCells #[.int .i64 0, .int .i64 0, .int .i64 0, .int .i64 0] (n * 4)).toList = codePart [] n := by
  have h := insPart_zero (List.replicate n (⟨0, 0, 0, 0⟩ : Ins))
  rw [List.length_replicate] at h
  rw [h]
  simp [insPart, codePart]
theorem codePart_at {L : List Ins} {n k : Nat} (h : L.length = k) (hk : k < n) (j : Nat) (hj : j < 4) : (codePart L n)[k * 4 + j]? = some (.int .i64 0) := by
  unfold codePart
  rw [List.getElem?_append_right (by rw [flc_len]; omega), flc_len, List.getElem?_replicate, if_pos (by rw [h]; have : (n - k) * 4 = n * 4 - k * 4 := Nat.sub_mul _ _ _; omega)]
theorem codePart_set {L : List Ins} {n k : Nat} (h : L.length = k) (hk : k < n) (x : Ins) :
    ((((codePart L n).set (k * 4) (.int .i64 x.o)).set (k * 4 + 1) (.int .i64 x.r)).set (k * 4 + 2) (.int .i64 x.s)).set (k * 4 + 3) (.int .i64 x.n) = codePart (L ++ [x]) n := by
  unfold codePart
  obtain ⟨d, hd⟩ : ∃ d, (n - L.length) * 4 = d + 4 ∧ (n - (L ++ [x]).length) * 4 = d := ⟨(n - k - 1) * 4, by
    rw [h, List.length_append, h]
    simp only [List.length_cons, List.length_nil]
    omega⟩
  rw [hd.1, hd.2, show List.replicate (d + 4) (Value.int .i64 0) = .int .i64 0 :: .int .i64 0 :: .int .i64 0 :: .int .i64 0 :: List.replicate d (.int .i64 0) from rfl]
  rw [set4 _ _ _ _ _ _ _ _ (by rw [flc_len, h])]
  rw [flc_append, flc_one]
  simp [insC]
theorem codePart_all {L : List Ins} {n : Nat} (h : L.length = n) : codePart L n = flc L := by simp [codePart, h]
theorem splitC_call (s : List UInt8) (w : World) (hs : s.length ≤ 1048576) (hm : MaxSet w) :
    Calls Tryz.prog 58 #[str s, .string ⟨#[59, 32]⟩, .int .i64 17] w fun e w' => ∃ N, e = .returned (.slice (some ⟨w.heap.size, 0, none⟩) (piecesC s).length N) ∧ (piecesC s).length ≤ N ∧ N ≤ 17 ∧ w.heap.size < w'.heap.size ∧ Below w.heap.size w w' ∧
      ∀ j p, (piecesC s)[j]? = some p → w'.cell? ⟨w.heap.size, j, none⟩ = some (str p) := by
  obtain ⟨m0, hm0⟩ := hm
  refine (Tryz.strings_SplitN ⟨s.toArray⟩ ⟨#[59, 32]⟩ 17 m0 w (by show s.toArray.size < _; simp; omega) hm0 (by decide) (by decide) (by decide)).mono ?_
  rintro e w' ⟨rfl, rfl⟩
  have hsz : (⟨s.toArray⟩ : ByteArray).size = s.length := by show s.toArray.size = _; simp
  have hd := Lib.splitB_data ⟨#[59, 32]⟩ 0 (min 17 ((⟨s.toArray⟩ : ByteArray).size + 1) - 1) ⟨s.toArray⟩
  have hpc : (Lib.splitB ⟨#[59, 32]⟩ 0 (min 17 ((⟨s.toArray⟩ : ByteArray).size + 1) - 1) ⟨s.toArray⟩).map (·.data.toList) = piecesC s := by
    rw [hd, hsz]
    rfl
  have hln : (Lib.splitB ⟨#[59, 32]⟩ 0 (min 17 ((⟨s.toArray⟩ : ByteArray).size + 1) - 1) ⟨s.toArray⟩).length = (piecesC s).length := by rw [← hpc, List.length_map]
  have hle := Lib.splitB_length_le ⟨#[59, 32]⟩ 0 (min 17 ((⟨s.toArray⟩ : ByteArray).size + 1) - 1) ⟨s.toArray⟩
  rw [hln] at hle ⊢
  refine ⟨_, rfl, by omega, by omega, by simp, (Below.refl _ _).alloc (Nat.le_refl _) _, fun j p hp => ?_⟩
  rw [World.cell?_alloc_new]
  have hj := (List.getElem?_eq_some_iff.1 hp).1
  unfold Lib.cellsOf
  simp only [List.getElem?_toArray]
  rw [List.getElem?_append_left (by rw [List.length_map, hln]; exact hj), List.getElem?_map]
  rw [← hpc, List.getElem?_map] at hp
  cases hx : (Lib.splitB ⟨#[59, 32]⟩ 0 (min 17 ((⟨s.toArray⟩ : ByteArray).size + 1) - 1) ⟨s.toArray⟩)[j]? with
  | none => rw [hx] at hp; cases hp
  | some q =>
    rw [hx] at hp
    injection hp with hp
    subst hp
    rfl
theorem piecesC_part (s : List UInt8) : ∀ p ∈ piecesC s, p.length ≤ s.length := by
  have hj := (join_splitK (min 17 (s.length + 1) - 1) s).1
  have key : ∀ (l : List (List UInt8)), ∀ p ∈ l, p.length ≤ (Lib.join l sepC).length := by
    intro l
    induction l with
    | nil => intro p hp; simp at hp
    | cons t l ih =>
      intro p hp
      cases l with
      | nil =>
        rw [Lib.join_one]
        simp at hp
        subst hp
        exact Nat.le_refl _
      | cons u l =>
        rw [join_cons2]
        rcases List.mem_cons.1 hp with rfl | hp
        · simp
        · have := ih p hp
          simp only [List.length_append]
          omega
  intro p hp
  have := key _ p hp
  rw [show Lib.join (piecesC s) sepC = s from hj] at this
  exact this
set_option maxHeartbeats 6400000 in
theorem parseInstrs (s : List UInt8) (w : World) (hs : s.length ≤ 1048576) (hE : EnvP w) :
    Calls Tryz.prog 30 #[str s, .int .i64 16, .string ⟨#[59, 32]⟩, .func (.func 31) #[] #[]] w (RetCodeB ((codeCF s).getD []) (codeCF s).isSome w) := by
  have HE := Lib.hid hE
  clear hE
  cases hsc : s with
  | nil =>
    go_enter Tryz.func30, Tryz.ntmps30
    go_wp2_with fail
    exact bodyPost_ret (v := .tuple #[.slice none 0 0, .bool true]) (by simp [results, Tryz.results30, go_sem]) rfl ⟨_, [], by simp [codeCF], Own.nil _ _, by simp, Below.refl _ _⟩
  | cons ch s' =>
    have hne : s ≠ [] := by rw [hsc]; simp
    have hP := splitC_call s w hs HE.out.env.max
    have hpp : ∀ p ∈ piecesC s, p.length ≤ 1048576 := fun p hp => Nat.le_trans (piecesC_part s p hp) hs
    have hcf : codeCF s = if 16 < (piecesC s).length then none else (piecesC s).mapM parseIF := by unfold codeCF; rw [if_neg hne]
    obtain ⟨ps, hps⟩ : ∃ ps, piecesC s = ps := ⟨_, rfl⟩
    rw [hps] at hP hcf hpp
    obtain ⟨s2, hs2⟩ : ∃ s2, codeCF s = s2 := ⟨_, rfl⟩
    rw [hs2] at hcf
    rw [← hsc, hs2]
    have HP := Lib.hid hP
    have HPP := Lib.hid hpp
    have HCF := Lib.hid hcf
    rw [hsc] at HP ⊢
    obtain ⟨i, hi, hz0, hz1, hz2⟩ := info_parts infoIns
    clear hP hps hsc hne hs2 hpp hcf
    go_enter Tryz.func30, Tryz.ntmps30
    go_wp2_with fail
    refine HP.out.mono ?_
    rintro e w1 ⟨N, rfl, hnN, hN17, hl1, hB1, hc1⟩
    have HC1 := Lib.hid hc1
    clear hc1
    by_cases hlen : 16 < ps.length
    · have HNone : Hid (s2 = none) := Lib.hid (by rw [HCF.out, if_pos hlen])
      go_wp2_with fail
      exact bodyPost_ret (v := .tuple #[.slice none 0 0, .bool false]) (by simp [results, Tryz.results30, go_sem]) rfl ⟨_, [], by rw [HNone.out]; rfl, by rw [HNone.out]; exact Own.nil _ _, by simp, hB1⟩
    · have HCF2 : Hid (s2 = ps.mapM parseIF) := Lib.hid (by rw [HCF.out, if_neg hlen])
      go_wp2_with (at_make; refine wpList_make_full _ rfl _ _ 31 rfl w1.heap.size 37 i (.agg #[.int .i64 0, .int .i64 0, .int .i64 0, .int .i64 0]) 4 Tryz.underlying31 hi hz0 hz1 _ _ _ _ ps.length rfl rfl rfl rfl (by rw [hz2]; omega) (by unfold maxLen; omega) (Nat.le_refl _) ?_)
      intro w2 hown hg2
      rw [codePart_zero] at hown
      have hb2 : Below w1.heap.size w1 w2 := (Below.refl _ _).grown hg2 (Nat.le_refl _) (by simp)
      have hsz1 := hB1.size
      clear hg2
      go_wp2_with fail
      go_loopw [32] (fun j wr => ∃ (k : Nat) (L : List Ins), k ≤ ps.length ∧ j = .int .i64 k ∧ Hid (L.length = k ∧ (ps.take k).mapM parseIF = some L) ∧ wr.ownsRow w1.heap.size 37 4 (.slice (some ⟨w1.heap.size, 0, none⟩) ps.length ps.length) ps.length (codePart L ps.length) ∧ Below w1.heap.size w1 wr) (fun j _ => ps.length - (intOf j).toNat)
      case atStart => exact ⟨0, [], Nat.zero_le _, rfl, Lib.hid ⟨rfl, by simp⟩, hown, hb2⟩
      case round =>
        obtain ⟨k, L, hk, rfl, HL, hO, hB⟩ := hrel
        clear hown hb2
        have hBw := hB1.trans (hB.mono hsz1)
        by_cases hlt : k < ps.length
        · obtain ⟨p, hp⟩ := opt_at hlt
          have hpc := (hB.cell (p := ⟨w.heap.size, k, none⟩) hl1).trans (HC1.out k p hp)
          have hPI := impl_ParseInstr p wr (HPP.out p (List.mem_of_getElem? hp)) (HE.out.below hBw (Nat.le_refl _))
          unfold RetInsB at hPI
          have HPk := Lib.hid hp
          clear hp
          cases ho : parseIF p with
          | none =>
            have HNone : Hid (s2 = none) := Lib.hid (by rw [HCF2.out, mapM_none HPk.out ho])
            rw [ho] at hPI
            have HPI : Hid (Calls Tryz.prog 31 #[str p] wr fun e w' => e = .returned (.tuple #[.agg #[.int .i64 0, .int .i64 0, .int .i64 0, .int .i64 0], .bool false]) ∧ Below wr.heap.size wr w') := Lib.hid hPI
            clear hPI ho
            go_wp2_with fail
            refine HPI.out.mono ?_
            rintro e w5 ⟨rfl, hb5⟩
            have hB5 := hBw.trans (hb5.mono hBw.size)
            go_wp2_with fail
            exact bodyPost_ret (v := .tuple #[.slice none 0 0, .bool false]) (by simp [results, Tryz.results30, go_sem]) rfl ⟨_, [], by rw [HNone.out]; rfl, by rw [HNone.out]; exact Own.nil _ _, by simp, hB5.alloc hB5.size _⟩
          | some x =>
            have HL' : Hid ((L ++ [x]).length = k + 1 ∧ (ps.take (k + 1)).mapM parseIF = some (L ++ [x])) := Lib.hid ⟨by simp [HL.out.1], mapM_snoc HL.out.2 HPk.out ho⟩
            have HPS := Lib.hid fun (y : Ins) => codePart_set HL.out.1 hlt y
            have HPA := Lib.hid fun (j : Nat) (hj : j < 4) => codePart_at HL.out.1 hlt j hj
            rw [ho] at hPI
            obtain ⟨xo, xr, xsS, xn⟩ := x
            have hPI2 : Calls Tryz.prog 31 #[str p] wr fun e w' => e = .returned (.tuple #[.agg #[.int .i64 xo, .int .i64 xr, .int .i64 xsS, .int .i64 xn], .bool true]) ∧ Below wr.heap.size wr w' := hPI
            have HPI := Lib.hid hPI2
            clear hPI hPI2 ho
            go_wp2_with fail
            refine HPI.out.mono ?_
            rintro e w5 ⟨rfl, hb5⟩
            have hB5 := hB.trans (hb5.mono hB.size)
            have hB5a := hB5.alloc hB5.size (.cells #[.int .i64 xo, .int .i64 xr, .int .i64 xsS, .int .i64 xn] 37)
            have hO5 := (ownsRow_below hO hb5).alloc (.cells #[.int .i64 xo, .int .i64 xr, .int .i64 xsS, .int .i64 xn] 37)
            have k5 := Bk.new w5 #[.int .i64 xo, .int .i64 xr, .int .i64 xsS, .int .i64 xn] 37
            obtain ⟨wv, hwv⟩ : ∃ wv, w5.alloc (.cells #[.int .i64 xo, .int .i64 xr, .int .i64 xsS, .int .i64 xn] 37) = wv := ⟨_, rfl⟩
            rw [hwv] at hB5a hO5 k5
            have HWV := Lib.hid hwv
            clear hO hb5 hwv hpc
            go_upto_region 13 with (fail)
            rw [HWV.out]
            obtain ⟨hk0, -⟩ := k5.at_ 0 rfl
            obtain ⟨hk1, -⟩ := k5.at_ 1 rfl
            obtain ⟨hk2, -⟩ := k5.at_ 2 rfl
            obtain ⟨hk3, -⟩ := k5.at_ 3 rfl
            have hc0 := (hO5.cellAt (k * 4) (by omega)).trans (HPA.out 0 (by omega))
            have hc1 := (hO5.cellAt (k * 4 + 1) (by omega)).trans (HPA.out 1 (by omega))
            have hc2 := (hO5.cellAt (k * 4 + 2) (by omega)).trans (HPA.out 2 (by omega))
            have hc3 := (hO5.cellAt (k * 4 + 3) (by omega)).trans (HPA.out 3 (by omega))
            have hf0 := hO5.frozenAt (k * 4)
            have hf1 := hO5.frozenAt (k * 4 + 1)
            have hf2 := hO5.frozenAt (k * 4 + 2)
            have hf3 := hO5.frozenAt (k * 4 + 3)
            go_wp2_with fail
            exact ⟨⟨k + 1, L ++ [⟨xo, xr, xsS, xn⟩], by omega, by go_num, HL', (HPS.out ⟨xo, xr, xsS, xn⟩) ▸ owns_set4 hO5 (k * 4) (k * 4 + 1) (k * 4 + 2) (k * 4 + 3) (.int .i64 xo) (.int .i64 xr) (.int .i64 xsS) (.int .i64 xn), below_set4 hB5a (Nat.le_refl _) _ _ _ _ _ _ _ _⟩, by simp [intOf]; omega⟩
        · obtain rfl : k = ps.length := by omega
          have HSome : Hid (s2 = some L) := Lib.hid (by
            have := HL.out.2
            rw [List.take_length] at this
            rw [HCF2.out, this])
          rw [codePart_all HL.out.1] at hO
          have hLl : Hid (L.length = ps.length) := Lib.hid HL.out.1
          obtain ⟨bs, h1, h2⟩ := Own.of_owns hO
          go_wp2_with fail
          exact bodyPost_ret (v := .tuple #[.slice (some ⟨w1.heap.size, 0, none⟩) ps.length ps.length, .bool true]) (by simp [results, Tryz.results30, go_sem]) rfl ⟨_, bs, by rw [HSome.out]; rfl, by rw [HSome.out]; show Own _ _ 4 L.length (flc L) bs; rw [hLl.out]; exact h1, fun b hb => Nat.le_trans hsz1 (h2 b hb), hBw⟩
set_option maxHeartbeats 800000 in
theorem impl_ParseCode (s : List UInt8) (w : World) (hs : s.length ≤ 1048576) (hE : EnvP w) :
    Calls Tryz.prog 9 #[str s] w (RetCodeB ((codeCF s).getD []) (codeCF s).isSome w) := by
  have HC := Lib.hid (parseInstrs s w hs hE)
  clear hE
  go_enter Tryz.func9, Tryz.ntmps9
  go_wp2_with fail
  refine HC.out.mono ?_
  rintro e w1 ⟨v1, bs1, rfl, h1, h2, h3⟩
  go_wp2_with fail
  go_ret2
  exact ⟨v1, bs1, rfl, h1, h2, h3⟩
theorem codeCF_len (s : List UInt8) : ((codeCF s).getD []).length ≤ 16 := by
  cases h : codeCF s with
  | none => simp
  | some xs =>
    by_cases hs : s = []
    · subst hs
      simp [codeCF] at h
      subst h
      simp
    · exact (code_to hs h).2.1
theorem spec_PC (s : List UInt8) (w : World) (rL : List Ins) (rb : Bool) (hs : s.length ≤ 1048576) (h1 : (codeCF s).getD [] = rL) (h2 : (codeCF s).isSome = rb) :
    Calls Tryz.prog 68 #[str s] w (RetCodeB rL rb w) := by
  have := spec_ParseCode s w hs
  rwa [h1, h2] at this
theorem impl_PC (s : List UInt8) (w : World) (rL : List Ins) (rb : Bool) (hs : s.length ≤ 1048576) (h1 : (codeCF s).getD [] = rL) (h2 : (codeCF s).isSome = rb) (hE : EnvP w) :
    Calls Tryz.prog 9 #[str s] w (RetCodeB rL rb w) := by
  have := impl_ParseCode s w hs hE
  rwa [h1, h2] at this
end Go.Proofs.YtgbgjlmkmlhefaaGreatDoor
