/- Contracts of MachineText, of both sides. Condition: the machine can be read; its integers are 64-bit ones. -/
import Derived.Test.YtmagjjdinfkhkabDoorT6
import Derived.Test.YtmagjjdinfkhkabDoorM4
namespace Go.Proofs.YtmagjjdinfkhkabDoor
set_option maxRecDepth 20000
set_option linter.unusedSimpArgs false
set_option linter.unusedVariables false
open Go.ChangeShapes Go.WideShapes Go.ChangeAt Go.RowKit
def thNums (v : List Int) : List UInt8 := v.flatMap fun x => 32 :: Lib.itoa x
def thT (t : Th) : List UInt8 := 116 :: Lib.itoa t.pc ++ thNums t.v ++ 32 :: bufTextF t.f
def thsT (ths : List Th) : List UInt8 := ths.flatMap fun t => thT t ++ [32, 124, 32]
def shownT (t : Th) : Bool := bufOk t.f && decide (t.v.length ≤ 4)
def shownF (M : Ma) : Bool := memOk M.mem && decide (M.ths.length ≤ 3) && M.ths.all shownT
def machTextF (M : Ma) : List UInt8 := if shownF M then thsT M.ths ++ memTextF M.mem else []
/-- the integers that the text of a machine shows are 64-bit ones -/
def ShR (M : Ma) : Prop := ∀ t ∈ M.ths, (-9223372036854775808 ≤ t.pc ∧ t.pc ≤ 9223372036854775807) ∧ ∀ x ∈ t.v, -9223372036854775808 ≤ x ∧ x ≤ 9223372036854775807
theorem thNums_take {v : List Int} {k : Nat} {x : Int} (h : v[k]? = some x) : thNums (v.take (k + 1)) = thNums (v.take k) ++ 32 :: Lib.itoa x := by
  rw [List.take_add_one, h]
  simp [thNums]
theorem thsT_take {ths : List Th} {k : Nat} {t : Th} (h : ths[k]? = some t) : thsT (ths.take (k + 1)) = thsT (ths.take k) ++ (thT t ++ [32, 124, 32]) := by
  rw [List.take_add_one, h]
  simp [thsT]
theorem thNums_len {v : List Int} (h : ∀ x ∈ v, -9223372036854775808 ≤ x ∧ x ≤ 9223372036854775807) : ∀ k : Nat, (thNums (v.take k)).length ≤ 21 * k
  | 0 => by simp [thNums]
  | k + 1 => by
    have ih := thNums_len h k
    cases hx : v[k]? with
    | none =>
      have hk := List.getElem?_eq_none_iff.1 hx
      rw [List.take_of_length_le (by omega)] at ih ⊢
      omega
    | some x =>
      rw [thNums_take hx, List.length_append, List.length_cons]
      have := digs_len (h x (List.mem_of_getElem? hx))
      omega
theorem bufTextF_len (f : List P2) : (bufTextF f).length ≤ 130 := by
  unfold bufTextF
  split
  · rename_i hb
    split
    · simp
    · have h1 := bufT_len (slot_rng hb) f.length
      rw [List.take_length] at h1
      have := bufOk_len hb
      omega
  · simp
theorem thT_len {t : Th} (hp : -9223372036854775808 ≤ t.pc ∧ t.pc ≤ 9223372036854775807) (hv : ∀ x ∈ t.v, -9223372036854775808 ≤ x ∧ x ≤ 9223372036854775807) (hl : t.v.length ≤ 4) : (thT t).length ≤ 240 := by
  have h1 := digs_len hp
  have h2 := thNums_len hv t.v.length
  rw [List.take_length] at h2
  have h3 := bufTextF_len t.f
  simp only [thT, List.length_append, List.length_cons]
  omega
theorem thsT_len {ths : List Th} (hR : ∀ t ∈ ths, (-9223372036854775808 ≤ t.pc ∧ t.pc ≤ 9223372036854775807) ∧ ∀ x ∈ t.v, -9223372036854775808 ≤ x ∧ x ≤ 9223372036854775807) (hs : ths.all shownT = true) : ∀ k : Nat, (thsT (ths.take k)).length ≤ 250 * k
  | 0 => by simp [thsT]
  | k + 1 => by
    have ih := thsT_len hR hs k
    cases hx : ths[k]? with
    | none =>
      have hk := List.getElem?_eq_none_iff.1 hx
      rw [List.take_of_length_le (by omega)] at ih ⊢
      omega
    | some t =>
      have hm := List.mem_of_getElem? hx
      rw [List.all_eq_true] at hs
      have h1 := hs t hm
      simp only [shownT, Bool.and_eq_true, decide_eq_true_eq] at h1
      have h2 := thT_len (hR t hm).1 (hR t hm).2 h1.2
      rw [thsT_take hx]
      simp only [List.length_append, List.length_cons, List.length_nil]
      omega
theorem memTextF_len (xs : List Int) : (memTextF xs).length ≤ 400 := by
  unfold memTextF
  split
  · rename_i h
    obtain ⟨h1, h2, h3⟩ := memOk_parts h
    have := line_len xs.length xs rfl fun x hx => by have := h3 x hx; omega
    omega
  · simp
theorem allT_false {α : Type} {p : α → Bool} {xs : List α} {k : Nat} {x : α} (hx : xs[k]? = some x) (hp : p x = false) : xs.all p = false := by
  rw [List.all_eq_false]
  exact ⟨x, List.mem_of_getElem? hx, by simp [hp]⟩
theorem allT_snoc {α : Type} {p : α → Bool} {xs : List α} {k : Nat} {x : α} (h : (xs.take k).all p = true) (hx : xs[k]? = some x) (hp : p x = true) : (xs.take (k + 1)).all p = true := by
  rw [List.take_add_one, List.all_append, h, hx]
  simp [hp]
set_option maxHeartbeats 1600000 in
theorem l04Shown (mv tv : Value) (M : Ma) (w : World) (h : RdMa w mv tv M) :
    Calls Tryd.prog 11 #[.agg #[mv, tv]] w fun e w' => e = .returned (.bool (shownF M)) ∧ Below w.heap.size w w' := by
  obtain ⟨A0, c0, B0, d0, rfl, rfl, -, hBd, hcc, hdc⟩ := h.slices
  have hmem := h.mem
  obtain ⟨vsT, hvl, ⟨A', c', hAe, -, -, -, hrT⟩, hinT⟩ := h.ths
  injection hAe with hAe1 _ hAe3
  subst hAe1 hAe3
  have hB := (Below.refl w.heap.size w).alloc (Nat.le_refl _) (.cells #[.slice A0 M.mem.length c0, .slice B0 M.ths.length d0] 33)
  have K := Bk.new w #[.slice A0 M.mem.length c0, .slice B0 M.ths.length d0] 33
  have hC := spec_MemOk _ M.mem _ (hmem.below hB)
  have HB := Lib.hid hB
  clear hB hmem
  cases hme : memOk M.mem
  · rw [hme] at hC
    have HC := Lib.hid hC
    have HN : Hid (shownF M = false) := Lib.hid (by simp [shownF, hme])
    clear hC hme hrT hinT
    go_enter Tryd.func11, Tryd.ntmps11
    go_wp2_with fail
    refine HC.out.mono ?_
    rintro e w1 ⟨rfl, hb1⟩
    go_wp2_with fail
    go_ret
    exact ⟨ret_bool HN.out.symm, HB.out.trans (hb1.mono HB.out.size)⟩
  rw [hme] at hC
  have HC := Lib.hid hC
  clear hC
  by_cases hl : ¬ M.ths.length ≤ 3
  · have HN : Hid (shownF M = false) := Lib.hid (by simp [shownF, hl])
    clear hme hrT hinT
    go_enter Tryd.func11, Tryd.ntmps11
    go_wp2_with fail
    refine HC.out.mono ?_
    rintro e w1 ⟨rfl, hb1⟩
    obtain ⟨y1, -⟩ := (K.below hb1 K.lt).at_ 1 (x := .slice B0 M.ths.length d0) rfl
    go_wp2_with fail
    go_ret
    exact ⟨ret_bool HN.out.symm, HB.out.trans (hb1.mono HB.out.size)⟩
  have hl := Classical.not_not.1 hl
  have HF : Hid (shownF M = M.ths.all shownT) := Lib.hid (by simp [shownF, hme, hl])
  clear hme
  go_enter Tryd.func11, Tryd.ntmps11
  go_wp2_with fail
  refine HC.out.mono ?_
  rintro e w1 ⟨rfl, hb1⟩
  have hB1 := HB.out.trans (hb1.mono HB.out.size)
  obtain ⟨y1, -⟩ := (K.below hb1 K.lt).at_ 1 (x := .slice B0 M.ths.length d0) rfl
  clear hb1 HB HC K
  go_wp2_with fail
  go_loop [3] (fun i => ∃ k : Nat, k ≤ M.ths.length ∧ i = .int .i64 k ∧ Hid ((M.ths.take k).all shownT = true)) (fun i => M.ths.length - (intOf i).toNat)
  case atStart => exact ⟨0, Nat.zero_le _, rfl, Lib.hid (by simp)⟩
  case round =>
    obtain ⟨k, hk, rfl, HA⟩ := hrel
    by_cases hlt : k < M.ths.length
    · obtain ⟨bT, oT, rfl, hbT, hcT⟩ := hrT (by omega)
      obtain ⟨t, a1, a2, HT, HPv, hx0, hx1, hx2⟩ := th_at hvl hcT hlt hB1 hbT
      obtain ⟨ra, rb⟩ := hinT k t (a1, a2) HT.out HPv.out
      have rb1 := rb.below hB1
      obtain ⟨Av, cv, rfl, -, -, -, -⟩ := id ra
      obtain ⟨Af, cf, rfl, -, -, -, -⟩ := id rb
      have hU := spec_BufOk _ t.f _ rb1
      clear hrT hinT hcT HPv ra rb
      cases hb : bufOk t.f
      · rw [hb] at hU
        have HU := Lib.hid hU
        have HN : Hid (M.ths.all shownT = false) := Lib.hid (allT_false HT.out (by simp [shownT, hb]))
        clear hU hb
        go_wp2_with fail
        refine HU.out.mono ?_
        rintro e w2 ⟨rfl, rfl⟩
        go_wp2_with fail
        go_ret
        exact ⟨ret_bool (HF.out.trans HN.out).symm, hB1⟩
      · rw [hb] at hU
        have HU := Lib.hid hU
        by_cases hv : t.v.length ≤ 4
        · have HN := Lib.hid (allT_snoc (p := shownT) HA.out HT.out (by simp [shownT, hb, hv]))
          clear hU hb
          go_wp2_with fail
          refine HU.out.mono ?_
          rintro e w2 ⟨rfl, rfl⟩
          go_wp2_with fail
          exact ⟨⟨k + 1, by omega, by go_num, HN⟩, by simp [intOf]; omega⟩
        · have HN : Hid (M.ths.all shownT = false) := Lib.hid (allT_false HT.out (by simp [shownT, hv]))
          clear hU hb
          go_wp2_with fail
          refine HU.out.mono ?_
          rintro e w2 ⟨rfl, rfl⟩
          go_wp2_with fail
          go_ret
          exact ⟨ret_bool (HF.out.trans HN.out).symm, hB1⟩
    · obtain rfl : k = M.ths.length := by omega
      have HN := HA.out
      rw [List.take_length] at HN
      have HN := Lib.hid HN
      clear hrT hinT
      go_wp2_with fail
      go_ret
      exact ⟨ret_bool (HF.out.trans HN.out).symm, hB1⟩
end Go.Proofs.YtmagjjdinfkhkabDoor
