/- FnMemTexts answers true at every code: parsing the text of a drawn valid memory gives the memory back. No condition. -/
import Derived.Test.YtmagjjdinfkhkaaDoorDrawM
import Derived.Test.YtmagjjdinfkhkaaDoorI3
import Derived.Test.YtmagjjdinfkhkaaDoorLaidE
namespace Go.Proofs.YtmagjjdinfkhkaaDoor
set_option maxRecDepth 20000
set_option linter.unusedSimpArgs false
set_option linter.unusedVariables false
open Go.ChangeShapes Go.WideShapes Go.ChangeAt Go.RowKit
set_option linter.unusedVariables false
theorem line_cons (x y : Int) (r : List Int) : line (x :: y :: r) = Lib.itoa x ++ 32 :: line (y :: r) := by
  simp [line, Lib.join_cons, Lib.joinTail]
theorem parts_line : ∀ (xs : List Int), xs ≠ [] → partsF 32 (line xs) = xs.map Lib.itoa
  | [], h => absurd rfl h
  | [x], _ => by
    rw [line_one, partsF_miss 32 _ (itoa_bytes x)]
    rfl
  | x :: y :: r, _ => by
    rw [line_cons, partsF_hit 32 _ _ (itoa_bytes x), parts_line (y :: r) (by simp)]
    rfl
theorem listF_itoa : ∀ (xs : List Int), (∀ x ∈ xs, -1000000 ≤ x ∧ x ≤ 1000000) → listF (xs.map Lib.itoa) = some xs
  | [], _ => rfl
  | x :: xs, h => by
    have hx := h x (by simp)
    have ih := listF_itoa xs (fun y hy => h y (by simp [hy]))
    unfold listF at ih ⊢
    rw [List.map_cons, List.mapM_cons, readF_itoa (by omega), ih]
    rfl
theorem parse_line {xs : List Int} (h : memOk xs = true) : specParseF (line xs) = some xs := by
  obtain ⟨h1, h2, h3⟩ := memOk_parts h
  have hne : xs ≠ [] := by
    rintro rfl
    simp at h1
  have hp := parts_line xs hne
  have hM : memF (listF (partsF 32 (line xs))) = some xs := by
    rw [hp, listF_itoa xs h3]
    simp [memF, h]
  unfold specParseF
  split
  · rename_i hl
    rw [listF_long _ (.inl hl)] at hM
    cases hM
  · exact hM
theorem same_self {xs : List Int} (h : memOk xs = true) : sameF xs xs = true := by simp [sameF, h]
set_option maxHeartbeats 400000 in
theorem lawbig (A : Option Addr) (n c : Nat) (w : World) (hnc : n ≤ c) (hc : c ≤ 9223372036854775807) :
    Calls Tryd.prog 11 #[.slice A n c] w fun e w' => e = .returned (.bool (decide ((1048576 : Int) < n))) ∧ w = w' := by
  go_enter Tryd.func11, Tryd.ntmps11
  go_wp2_with fail
  go_ret
  exact ⟨rfl, rfl⟩
set_option maxHeartbeats 4000000 in
theorem walk_MemTexts (A : Option Addr) (n c : Nat) (w : World) (h : Byt w A n) (hnc : n ≤ c) (hc : c ≤ 9223372036854775807) (hE : Env w) :
    Calls Tryd.prog 4 #[.slice A n c] w fun e w' => e = .returned (.bool true) ∧ Below w.heap.size w w' := by
  by_cases hn : (1048576 : Int) < n
  · go_enter Tryd.func4, Tryd.ntmps4
    go_wp2_with (go_at_call 11; refine (lawbig _ _ _ _ hnc hc).mono ?_; rintro e w' ⟨rfl, rfl⟩)
    go_ret
    exact ⟨rfl, Below.refl _ _⟩
  · go_enter Tryd.func4, Tryd.ntmps4
    go_wp2_with (go_at_call 11; refine (lawbig _ _ _ _ hnc hc).mono ?_; rintro e w' ⟨rfl, rfl⟩)
    refine (DrawMemText A n c _ h hnc hc (by omega)).mono ?_
    rintro e w1 ⟨v1, xs, bs1, rfl, hmv, ho1, hbs1, hb1⟩
    obtain ⟨A1, c1, rfl, -, -⟩ := ho1.slice
    have hl17 := hmv.1
    clear hmv
    go_wp2_with fail
    have hB2 := hb1.alloc hb1.size (.cells #[.slice A1 xs.length c1] 27)
    have k2 := Bk.new w1 #[.slice A1 xs.length c1] 27
    have ho2 := ho1.below ((Below.refl _ _).alloc (Nat.le_refl _) (.cells #[.slice A1 xs.length c1] 27))
    refine (spec_MemOk _ xs _ ho2.rd).mono ?_
    rintro e w3 ⟨rfl, hb3⟩
    have hB3 := hB2.trans (hb3.mono hB2.size)
    have k3 := k2.below hb3 k2.lt
    have ho3 := ho2.below hb3
    have hl3 := k3.lt
    obtain ⟨hc3, hf3⟩ := k3.at_ 0 (x := .slice A1 xs.length c1) rfl
    have HE := Lib.hid hE
    clear hE
    cases hm : memOk xs
    · go_wp2_with fail
      go_ret
      exact ⟨rfl, hB3⟩
    · have HP := Lib.hid (parse_line hm)
      have HS := Lib.hid (same_self hm)
      have HT : Hid (memTextF xs = line xs) := Lib.hid (by simp [memTextF, hm])
      have hlen : (line xs).length ≤ 1048576 := by
        have := line_len xs.length xs rfl (fun x hx => by have := (memOk_parts hm).2.2 x hx; omega)
        omega
      clear hm
      go_wp2_with fail
      refine (impl_MemText _ xs _ ho3.rd (HE.out.tab.below hB3 (Nat.le_refl _))).mono ?_
      rintro e w4 ⟨rfl, hb4⟩
      have hB4 := hB3.trans (hb4.mono hB3.size)
      have k4 := k3.below hb4 k3.lt
      have ho4 := ho3.below hb4
      rw [HT.out]
      clear hc3 hf3 hl3
      go_wp2_with fail
      refine (impl_ParseMemE (line xs) _ hlen (HE.out.below hB4 (Nat.le_refl _))).mono ?_
      rw [HP.out]
      rintro e w5 ⟨v5, bs5, rfl, ho5, hbs5, hb5⟩
      have ho5' : Own w5 v5 1 xs.length (ints xs) bs5 := ho5
      clear ho5
      have hB5 := hB4.trans (hb5.mono hB4.size)
      have k5 := k4.below hb5 k4.lt
      have ho5a := ho4.below hb5
      obtain ⟨A5, c5, rfl, -, -⟩ := ho5'.slice
      obtain ⟨hc5, hf5⟩ := k5.at_ 0 (x := .slice A1 xs.length c1) rfl
      have hl5 := k5.lt
      go_wp2_with fail
      have hB6 := hB5.alloc hB5.size (.cells #[.slice A5 xs.length c5] 27)
      have o6 := ho5'.below ((Below.refl _ _).alloc (Nat.le_refl _) (.cells #[.slice A5 xs.length c5] 27))
      have o6a := ho5a.below ((Below.refl _ _).alloc (Nat.le_refl _) (.cells #[.slice A5 xs.length c5] 27))
      refine (impl_SameMem _ _ xs xs _ o6.rd o6a.rd).mono ?_
      rintro e w7 ⟨rfl, hb7⟩
      rw [HS.out]
      go_wp2_with fail
      go_ret
      exact ⟨rfl, hB6.trans (hb7.mono hB6.size)⟩
theorem tab_FnMemTexts {W : World} (h : laidMetH Tryd.prog Rows.fnMemTextsRow.laid W) (hS : W.ShapedOpen Tryd.prog) : Env W := ⟨tab_of 2 (by kernel_rfl) rfl h, ⟨sentinel 5 1 (by kernel_rfl) rfl (by kernel_rfl) (by kernel_rfl) h, sentinel 4 2 (by kernel_rfl) rfl (by kernel_rfl) (by kernel_rfl) h⟩, max_of hS⟩
set_option maxRecDepth 100000 in
theorem contract_FnMemTexts (H : Type) (enc : TypeId × Value → H) (W : World) (base : Nat) (args : Array Value) (ds gs : List (DataW H)) (before : List MemPlace)
    (hval0 : ∀ (j : Nat) t v, Tryd.f4.params[j]? = some t → args[j]? = some v → Value.okWide Tryd.prog W .any base t v)
    (hW : DataW.Whole enc Tryd.prog Tryd.f4.params.toList Rows.fnMemTextsSpec.vars false W args.toList ds gs before) (hL : laidMetH Tryd.prog Rows.fnMemTextsRow.laid W) (hS : W.ShapedOpen Tryd.prog) :
    Calls Tryd.prog 4 args W fun e W' => ∃ v, e = .returned v ∧ Rows.fnMemTextsSpec.post enc Tryd.prog Tryd.f4 false true false false W args v W' := by
  have hval : ∀ (j : Nat) t v, Tryd.f4.params[j]? = some t → args[j]? = some v → Value.okWide Tryd.prog W .any base t v := hval0
  have hW' := hW
  obtain ⟨p, q, hA0, hV, rfl, hfz, hnd⟩ := hW
  have hA : DataW.TrodAll enc Tryd.prog W 0 (fun _ => true) true Tryd.f4.params.toList args.toList ds p := hA0
  rw [Tryd.params4] at hA hval
  obtain ⟨v0, vs0, d0, ds0, p0, q0, hargs, rfl, rfl, h0, r0⟩ := trodAll_cons hA
  obtain ⟨rfl, rfl, rfl⟩ := trodAll_nil r0
  obtain rfl : args = #[v0] := by cases args; simp_all
  obtain ⟨rfl, rfl⟩ := trodVars_none hV
  obtain ⟨A, n, c, rfl, hb, hnc, hc⟩ := read_bytes Tryd.underlying31 Tryd.underlying5 (by kernel_rfl) (hval 0 _ v0 rfl rfl) h0
  refine (walk_MemTexts A n c W hb hnc hc (tab_FnMemTexts hL hS)).mono fun e W' ⟨he, hb⟩ => ?_
  subst he
  exact ⟨_, rfl, post_law (by kernel_rfl) rfl rfl (by kernel_rfl) Tryd.underlying4 (of_decide_eq_true (by kernel_rfl)) hW' hb⟩
noncomputable def world_FnMemTexts (os : Os) : World := laidWorldE os Rows.fnMemTextsRow.laid
theorem met_FnMemTexts (os : Os) : laidMet Tryd.prog Rows.fnMemTextsRow.laid ((world_FnMemTexts os).forCall (fun _ _ => 0) ⟨#[], #[.slice none 0 0], []⟩).memory := laidMet_of_run' 8 (by kernel_rfl) (by kernel_rfl)
theorem reads_FnMemTexts (os : Os) {H : Type} (enc : TypeId × Value → H) : ∃ places, DataW.whole enc Tryd.prog ((world_FnMemTexts os).forCall (fun _ _ => 0) ⟨#[], #[.slice none 0 0], []⟩).memory Tryd.f4.params.toList Rows.fnMemTextsSpec.vars false (#[.slice none 0 0] : Array Value).toList 8 = some ([.nil], [], places) :=
  ⟨[], by kernel_rfl⟩
set_option maxRecDepth 100000 in
theorem lift_FnMemTexts (os : Os) (started : os.Started) (H : Type) (enc : TypeId × Value → H) (F : Stop.Interp) :
    ReturnsInHanded {} Tryd.checked os 4 .any ((OpenSpec.ofChange Rows.fnMemTextsSpec).preRow enc Tryd.prog Tryd.f4 Rows.fnMemTextsRow.domain false Rows.fnMemTextsRow.laid) (((OpenSpec.ofChange Rows.fnMemTextsSpec).at F).post enc Tryd.prog Tryd.f4 false true false false) := by
  obtain ⟨places, hx⟩ := reads_FnMemTexts os enc
  refine returnsInHanded_of_row (C := Tryd.checked) (s := OpenSpec.ofChange Rows.fnMemTextsSpec) (by kernel_rfl) started (by kernel_rfl) Tryd.func4
    (witness_row_atRef (enc := enc) (C := Tryd.checked) false (world_FnMemTexts os) #[.slice none 0 0] rfl (by kernel_rfl) (by kernel_rfl) (by kernel_rfl)
      (OpenSpec.preRow_of_cond 8 hx (by kernel_rfl) (fun k hk => by cases hk) (by kernel_rfl) (met_FnMemTexts os))) ?_
  intro W base args ds gs before hval hW _ _ _ hL hS _
  exact contract_FnMemTexts H enc W base args ds gs before hval hW hL hS
theorem FnMemTexts_row : Rows.FnMemTextsSaid :=
  OpenClaim.holds_of_cond 4 Tryd.f4 rfl rfl rfl rfl rfl rfl rfl ⟨rfl, rfl, rfl, rfl, rfl⟩ rfl rfl rfl rfl rfl (by kernel_rfl) Tryd.func4 (by kernel_rfl)
    (of_decide_eq_true (by kernel_rfl)) (by unfold Func.isWrapper; first | (rw [if_pos (by decide +kernel)]; kernel_rfl) | (rw [if_neg (by decide +kernel)]; exact ⟨rfl, rfl⟩))
    (fun os started H enc _ F => by rw [OpenClaim.pre_eq_preRow]; exact lift_FnMemTexts os started H enc F)
theorem plain_FnMemTexts (f : FuncId) (fn : Func) (hf : Tryd.pinned.checked.prog.funcNamed Rows.fnMemTextsRow.func = some f) (hfn : Tryd.pinned.checked.prog.funcs[f]? = some fn) :
    true = Tryd.pinned.checked.prog.looks [] ∧ ∀ (j : Nat) t, fn.params[j]? = some t → Tryd.pinned.checked.prog.wantsStandIn t = false := by
  obtain rfl : f = 4 := Option.some.inj ((show Tryd.prog.funcNamed Rows.fnMemTextsRow.func = some 4 by kernel_rfl).symm.trans hf) |>.symm
  obtain rfl : fn = Tryd.f4 := (Option.some.inj (Tryd.func4.symm.trans hfn)).symm
  refine ⟨by kernel_rfl, fun j t ht => ?_⟩
  rw [Tryd.params4] at ht
  obtain rfl : t = 31 := by simpa using Array.mem_of_getElem? ht
  kernel_rfl
theorem FnMemTexts_holds : Rows.FnMemTextsCardSaid :=
  Claim7.holds_tied_plain_at .later [] _ _ _ _ FnMemTexts_row (fun _ h => by cases h) (by kernel_rfl) (fun _ h => by cases h) fnMemTexts_row_tie rfl ⟨rfl, rfl⟩ (by kernel_rfl) rfl plain_FnMemTexts (by kernel_rfl)
#print axioms FnMemTexts_holds
end Go.Proofs.YtmagjjdinfkhkaaDoor
