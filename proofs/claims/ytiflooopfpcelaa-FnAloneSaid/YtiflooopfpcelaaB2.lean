/- Contracts of chapter 3's program functions (package impl): a valid slot, a valid buffer, the queue's copies, PutSlot, Waits. Condition: the slices can be read. -/
import Derived.Test.YtiflooopfpcelaaB1
import Derived.Test.YtiflooopfpcelaaI1
import Derived.Test.YtiflooopfpcelaaSteps
import Derived.Deep.RegionLaw
import Derived.Lib.SliceRun
namespace Go.Proofs.Ytiflooopfpcelaa
set_option maxRecDepth 20000
set_option linter.unusedSimpArgs false
set_option linter.unusedVariables false
open Go.ChangeShapes Go.WideShapes Go.ChangeAt Go.RowKit
set_option linter.unusedVariables false
set_option maxHeartbeats 800000 in
theorem impl_slotValid (x : P2) (w : World) :
    Calls Try.prog 136 #[.agg #[.int .i64 x.a, .int .i64 x.b]] w fun e w' => e = .returned (.bool (slotOk x)) ∧ Below w.heap.size w w' := by
  obtain ⟨a, b⟩ := x
  have hB := (Below.refl w.heap.size w).alloc (Nat.le_refl _) (.cells #[.int .i64 a, .int .i64 b] 94)
  have HB := Lib.hid hB
  clear hB
  cases h0 : inB a 0 15
  · have HS : Hid (slotOk ⟨a, b⟩ = false) := Lib.hid (by simp [slotOk, h0])
    have HI : Hid (∀ w : World, Calls Try.prog 89 #[.int .i64 a, .int .i64 16] w fun e w' => e = .returned (.bool false) ∧ w = w') := Lib.hid fun w => by have := impl_indexOk a 16 w; rwa [show inB a 0 (16 - 1) = false from h0] at this
    clear h0
    go_enter Try.func136, Try.ntmps136
    go_wp2_with (go_at_call 89; refine (HI.out _).mono ?_; rintro e w' ⟨rfl, rfl⟩)
    go_ret
    exact ⟨ret_bool HS.out.symm, HB.out⟩
  · have HS : Hid (slotOk ⟨a, b⟩ = valB b) := Lib.hid (by simp [slotOk, h0])
    have HI : Hid (∀ w : World, Calls Try.prog 89 #[.int .i64 a, .int .i64 16] w fun e w' => e = .returned (.bool true) ∧ w = w') := Lib.hid fun w => by have := impl_indexOk a 16 w; rwa [show inB a 0 (16 - 1) = true from h0] at this
    clear h0
    go_enter Try.func136, Try.ntmps136
    go_wp2_with (first | (go_at_call 89; refine (HI.out _).mono ?_; rintro e w' ⟨rfl, rfl⟩) | (go_at_call 93; refine (impl_valueOk _ _).mono ?_; rintro e w' ⟨rfl, rfl⟩))
    go_ret
    exact ⟨ret_bool HS.out.symm, HB.out⟩
set_option maxHeartbeats 800000 in
theorem impl_BufOk (v : Value) (xs : List P2) (w : World) (h : Rd w v 2 xs.length (flc2 xs)) :
    Calls Try.prog 104 #[v] w fun e w' => e = .returned (.bool (bufOk xs)) ∧ Below w.heap.size w w' := by
  obtain ⟨A, c, rfl, -, hnc, hc, hr⟩ := h
  unfold maxLen at hc
  by_cases hlen : xs.length ≤ 3
  · go_enter Try.func104, Try.ntmps104
    go_wp2_with fail
    go_loopw [10] (fun i wr => ∃ k : Nat, k ≤ xs.length ∧ i = .int .i64 k ∧ Hid ((xs.take k).all slotOk = true) ∧ Below w.heap.size w wr) (fun i _ => xs.length - (intOf i).toNat)
    case atStart => exact ⟨0, Nat.zero_le _, rfl, Lib.hid (by simp), Below.refl _ _⟩
    case round =>
      obtain ⟨k, hk, rfl, HA, hB⟩ := hrel
      by_cases hlt : k < xs.length
      · obtain ⟨b, o, rfl, hb, hcell⟩ := hr (by omega)
        obtain ⟨x, hxk, hx0, hx1⟩ := p2_at (fun j u hu => (hB.cell (p := ⟨b, o + j, none⟩) hb).trans (hcell j u hu)) hlt
        clear hcell hr
        have hBa := hB.alloc hB.size (.cells #[.int .i64 x.a, .int .i64 x.b] 94)
        cases hs : slotOk x
        · have HN : Hid (bufOk xs = false) := Lib.hid (by simp [bufOk, allP_not (p := slotOk) hxk.out hs])
          go_wp2_with fail
          refine (impl_slotValid x _).mono ?_
          rintro e w1 ⟨rfl, hb1⟩
          rw [hs]
          go_wp2_with fail
          go_ret
          exact ⟨ret_bool HN.out.symm, hBa.trans (hb1.mono hBa.size)⟩
        · have HS := Lib.hid (allP_snoc (p := slotOk) HA.out hxk.out hs)
          go_wp2_with fail
          refine (impl_slotValid x _).mono ?_
          rintro e w1 ⟨rfl, hb1⟩
          rw [hs]
          go_wp2_with fail
          exact ⟨⟨k + 1, by omega, by go_num, HS, hBa.trans (hb1.mono hBa.size)⟩, by simp [intOf]; omega⟩
      · go_wp2_with fail
        go_ret
        obtain rfl : k = xs.length := by omega
        have := HA.out
        rw [List.take_length] at this
        exact ⟨ret_bool (by simp [bufOk, hlen, this]), hB⟩
  · go_enter Try.func104, Try.ntmps104
    go_wp2
    go_ret
    exact ⟨ret_bool (by simp [bufOk, hlen]), Below.refl _ _⟩
set_option maxHeartbeats 800000 in
theorem cloneSlots (v : Value) (xs : List P2) (w : World) (h : Rd w v 2 xs.length (flc2 xs)) (hsz : xs.length ≤ 16777216) :
    Calls Try.prog 126 #[v] w (RetRow2 94 xs w) := by
  obtain ⟨A, c, rfl, -, hnc, hc, hr⟩ := id h
  unfold maxLen at hc
  obtain ⟨i, hi, hiz0, hiz1, hiz2⟩ := info_parts infoSlot
  rcases A with _ | ad
  · have h0 : xs = [] := by
      by_cases hp : 0 < xs.length
      · obtain ⟨b, o, he, _⟩ := hr hp
        cases he
      · exact List.eq_nil_of_length_eq_zero (by omega)
    subst h0
    have e0 := fun w => Lib.run_eql_slice_nil (P := Try.prog) w 69 94 none 0 c 0 0 Try.underlying69
    go_enter Try.func126, Try.ntmps126
    go_wp2_with fail
    go_ret
    exact ⟨_, rfl, World.ownsRow_nil _ _ _ _, Below.refl _ _⟩
  · have HC : Hid (∀ W : World, Below w.heap.size w W → ∀ j u, (flc2 xs)[j]? = some u → W.cell? (ad.add j) = some u) := by
      intro W hW j u hu
      have hj : j < xs.length * 2 := by have := (List.getElem?_eq_some_iff.1 hu).1; rw [flc2_len] at this; exact this
      obtain ⟨A', c', he, -, -, -, hr'⟩ := h.a
      injection he with e1
      subst e1
      obtain ⟨ad', he', hb, hcell⟩ := hr' (by omega)
      injection he' with e2
      subst e2
      exact (hW.cell (p := ad.add j) (by rw [add_block]; exact hb)).trans (hcell j u hu)
    have hO := World.ownsRow_lit (base := w.heap.size) (e := 94) (size := 2) w #[] 0 (Nat.le_refl _) (by simp [maxLen]) rfl
    have hB := (Below.refl w.heap.size w).alloc (Nat.le_refl _) (.cells #[] 94)
    have hone : ∀ u ∈ flc2 xs, u.oneCell' = true := by simp [flc2, ints, Value.oneCell']
    have hln : (flc2 xs).length = xs.length * 2 := flc2_len xs
    have HO := Lib.hid hone
    clear hr hone
    have e0 := fun w => Lib.run_eql_slice_nil (P := Try.prog) w 69 94 (some ad) xs.length c 0 0 Try.underlying69
    go_enter Try.func126, Try.ntmps126
    go_wp2_with (at_builtin; refine wpList_append_own _ rfl _ _ 69 rfl w.heap.size 94 i (.agg #[.int .i64 0, .int .i64 0]) 2 16 Try.underlying69 hi hiz0 hiz1 hiz2 rfl (by decide) _ _ _ rfl hO ad xs.length c (flc2 xs) rfl hln (HC.out _ hB) HO.out (by unfold maxLen; omega) (by omega) (by simp) ?_)
    intro v' w1 hown' hgrow _
    have hB' := hB.grown hgrow (by simp) (fun k hk => (hO.lt k hk).1)
    go_wp2_with fail
    go_ret
    exact ⟨_, rfl, by simpa using hown', hB'⟩
set_option maxHeartbeats 800000 in
theorem cloneQueue (v : Value) (xs : List P2) (w : World) (h : Rd w v 2 xs.length (flc2 xs)) (hsz : xs.length ≤ 16777216) :
    Calls Try.prog 162 #[v] w (RetRow2 94 xs w) := by
  obtain ⟨A, c, rfl, -, hnc, hc, hr⟩ := id h
  unfold maxLen at hc
  obtain ⟨i, hi, hiz0, hiz1, hiz2⟩ := info_parts infoSlot
  rcases A with _ | ad
  · have h0 : xs = [] := by
      by_cases hp : 0 < xs.length
      · obtain ⟨b, o, he, _⟩ := hr hp
        cases he
      · exact List.eq_nil_of_length_eq_zero (by omega)
    subst h0
    have e0 := fun w => Lib.run_eql_slice_nil (P := Try.prog) w 189 94 none 0 c 0 0 Try.underlying189
    go_enter Try.func162, Try.ntmps162
    go_wp2_with fail
    go_ret
    exact ⟨_, rfl, World.ownsRow_nil _ _ _ _, Below.refl _ _⟩
  · have HC : Hid (∀ W : World, Below w.heap.size w W → ∀ j u, (flc2 xs)[j]? = some u → W.cell? (ad.add j) = some u) := by
      intro W hW j u hu
      have hj : j < xs.length * 2 := by have := (List.getElem?_eq_some_iff.1 hu).1; rw [flc2_len] at this; exact this
      obtain ⟨A', c', he, -, -, -, hr'⟩ := h.a
      injection he with e1
      subst e1
      obtain ⟨ad', he', hb, hcell⟩ := hr' (by omega)
      injection he' with e2
      subst e2
      exact (hW.cell (p := ad.add j) (by rw [add_block]; exact hb)).trans (hcell j u hu)
    have hO := World.ownsRow_lit (base := w.heap.size) (e := 94) (size := 2) w #[] 0 (Nat.le_refl _) (by simp [maxLen]) rfl
    have hB := (Below.refl w.heap.size w).alloc (Nat.le_refl _) (.cells #[] 94)
    have hone : ∀ u ∈ flc2 xs, u.oneCell' = true := by simp [flc2, ints, Value.oneCell']
    have hln : (flc2 xs).length = xs.length * 2 := flc2_len xs
    have HO := Lib.hid hone
    clear hr hone
    have e0 := fun w => Lib.run_eql_slice_nil (P := Try.prog) w 189 94 (some ad) xs.length c 0 0 Try.underlying189
    go_enter Try.func162, Try.ntmps162
    go_wp2_with (at_builtin; refine wpList_append_own _ rfl _ _ 189 rfl w.heap.size 94 i (.agg #[.int .i64 0, .int .i64 0]) 2 16 Try.underlying189 hi hiz0 hiz1 hiz2 rfl (by decide) _ _ _ rfl hO ad xs.length c (flc2 xs) rfl hln (HC.out _ hB) HO.out (by unfold maxLen; omega) (by omega) (by simp) ?_)
    intro v' w1 hown' hgrow _
    have hB' := hB.grown hgrow (by simp) (fun k hk => (hO.lt k hk).1)
    go_wp2_with fail
    go_ret
    exact ⟨_, rfl, by simpa using hown', hB'⟩
theorem cells_of_bk {w : World} {g : Nat} {cs : List Value} {t : TypeId} (h : Bk w g cs.toArray t) : ∀ j u, cs[j]? = some u → w.cell? ((⟨g, 0, none⟩ : Addr).add j) = some u := by
  intro j u hu
  have e : (⟨g, 0, none⟩ : Addr).add j = ⟨g, j, none⟩ := by unfold Addr.add; split <;> simp_all
  rw [e]
  exact (h.at_ j (by simpa using hu)).1
theorem owns_lower {w : World} {base base' : Nat} {e : TypeId} {size : Nat} {v : Value} {n : Nat} {xs : List Value} (h : w.ownsRow base e size v n xs) (hb : base' ≤ base) : w.ownsRow base' e size v n xs := by
  obtain ⟨hl, h0 | ⟨g, cap, cur, h1, h2, h3⟩⟩ := h
  · exact ⟨hl, .inl h0⟩
  · exact ⟨hl, .inr ⟨g, cap, cur, h1, by omega, h3⟩⟩
set_option maxHeartbeats 800000 in
theorem impl_put (v : Value) (xs : List P2) (x : P2) (w : World) (h : Rd w v 2 xs.length (flc2 xs)) (hsz : xs.length ≤ 16777215) :
    Calls Try.prog 172 #[v, .agg #[.int .i64 x.a, .int .i64 x.b]] w (RetRow2 94 (xs ++ [x]) w) := by
  obtain ⟨A, c, rfl, -⟩ := id h
  obtain ⟨a, b⟩ := x
  obtain ⟨i, hi, hiz0, hiz1, hiz2⟩ := info_parts infoSlot
  have hBa := (Below.refl w.heap.size w).alloc (Nat.le_refl _) (.cells #[.int .i64 a, .int .i64 b] 94)
  have hBb := hBa.alloc hBa.size (.cells #[.int .i64 a, .int .i64 b] 94)
  have HR : Hid (∀ W, Below w.heap.size w W → Rd W (.slice A xs.length c) 2 xs.length (flc2 xs)) := Lib.hid fun W hW => h.below hW
  have k0 := Bk.new w #[.int .i64 a, .int .i64 b] 94
  obtain ⟨hc0, hf0⟩ := k0.at_ 0 (x := .int .i64 a) rfl
  obtain ⟨hc1, hf1⟩ := k0.at_ 1 (x := .int .i64 b) rfl
  have k1 := Bk.new (w.alloc (.cells #[.int .i64 a, .int .i64 b] 94)) #[.int .i64 a, .int .i64 b] 94
  rw [World.size_alloc] at k1
  have K0 := Lib.hid k0
  have K1 := Lib.hid k1
  have HBa := Lib.hid hBa
  have HBb := Lib.hid hBb
  clear h k0 k1 hBa hBb
  go_enter Try.func172, Try.ntmps172
  go_wp2_with fail
  go_region_law (first
    | (refine step_call rfl 162 Try.func162 (by kernel_rfl) (by kernel_rfl) _ _ rfl #[.slice A xs.length c] (by simp [Act.eval, Act.put]) (cloneQueue _ xs _ (HR.out _ HBa.out.drew) (by omega)) ?_; rintro e w6 ⟨v6, rfl, hO6, hB6⟩; refine ⟨_, rfl, ?_⟩; have k6 := Bk.below (by exact K0.out) hB6 (by exact K0.out.lt); obtain ⟨hd0, -⟩ := k6.at_ 0 (x := .int .i64 a) rfl; obtain ⟨hd1, -⟩ := k6.at_ 1 (x := .int .i64 b) rfl)
    | (refine step_call rfl 162 Try.func162 (by kernel_rfl) (by kernel_rfl) _ _ rfl #[.slice A xs.length c] (by simp [Act.eval, Act.put]) (cloneQueue _ xs _ (HR.out _ HBb.out.drew) (by omega)) ?_; rintro e w6 ⟨v6, rfl, hO6, hB6⟩; refine ⟨_, rfl, ?_⟩; have k6 := Bk.below (by exact K1.out) hB6 (by exact K1.out.lt))
    | (refine step_own _ rfl (.tmp 6) (.tmp 8) 189 rfl (w.heap.size + 1) 94 i (.agg #[.int .i64 0, .int .i64 0]) 2 16 Try.underlying189 hi hiz0 hiz1 hiz2 rfl (by decide) _ xs.length (flc2 xs) rfl ((by simpa using hO6 : w6.ownsRow (w.heap.size + 1) 94 2 v6 xs.length (flc2 xs)).alloc _) ⟨w6.heap.size, 0, none⟩ 1 1 [.int .i64 a, .int .i64 b] rfl rfl (new_cells _ _ _) (by simp [Value.oneCell']) (by unfold maxLen; omega) (by omega) (by have := hB6.size; simp at this ⊢; omega) ?_; intro v7 w7 hown7 hg7)
    | (refine step_own _ rfl (.tmp 6) (.tmp 8) 189 rfl (w.heap.size + 1) 94 i (.agg #[.int .i64 0, .int .i64 0]) 2 16 Try.underlying189 hi hiz0 hiz1 hiz2 rfl (by decide) _ xs.length (flc2 xs) rfl (owns_lower hO6 (by simp)) ⟨w.heap.size + 1, 0, none⟩ 1 1 [.int .i64 a, .int .i64 b] rfl rfl (cells_of_bk k6) (by simp [Value.oneCell']) (by unfold maxLen; omega) (by omega) (by have := hB6.size; simp at this ⊢; omega) ?_; intro v7 w7 hown7 hg7))
  all_goals
    have hX : Below w.heap.size w w7 := by
      first
        | exact ((HBa.out.drew.trans (hB6.mono (by simp))).alloc (HBa.out.drew.trans (hB6.mono (by simp))).size _).grown hg7 (by have := (HBa.out.drew.trans (hB6.mono (by simp))).size; simp; omega) (fun k hk => Nat.le_trans (by simp) (hO6.lt k hk).1)
        | exact (HBb.out.drew.trans (hB6.mono (by simp; omega))).grown hg7 (HBb.out.drew.trans (hB6.mono (by simp; omega))).size (fun k hk => Nat.le_trans (by simp; omega) (hO6.lt k hk).1)
    have ho8 := owns_snoc2 (x := ⟨a, b⟩) (owns_lower hown7 (by omega : w.heap.size ≤ w.heap.size + 1))
    clear hg7 hown7
    go_wp2_with fail
    go_ret
    exact ⟨_, rfl, ho8, hX⟩
set_option maxHeartbeats 1600000 in
theorem impl_PutSlot (v : Value) (xs : List P2) (a x : Int) (w : World) (h : Rd w v 2 xs.length (flc2 xs)) (hsz : xs.length ≤ 16777215) :
    Calls Try.prog 166 #[v, .int .i64 a, .int .i64 x] w (RetSlotsB (putF xs a x) (putOk xs a x) w) := by
  obtain ⟨A, c, rfl, -⟩ := id h
  have HR := Lib.hid h
  clear h
  go_enter Try.func166, Try.ntmps166
  go_wp2_with fail
  refine (impl_put _ xs ⟨a, x⟩ _ HR.out hsz).mono ?_
  rintro e w2 ⟨v2, rfl, ho2, hB2⟩
  obtain ⟨bs, hO2, hlo2⟩ := Own.of_owns ho2
  clear ho2
  go_wp2_with fail
  refine (impl_BufOk _ (xs ++ [⟨a, x⟩]) _ hO2.rd).mono ?_
  rintro e w3 ⟨rfl, hb3⟩
  have hB3 := hB2.trans (hb3.mono hB2.size)
  have hO3 := hO2.below hb3
  clear hb3 hB2 hO2
  cases hp : bufOk (xs ++ [⟨a, x⟩])
  · have hf : putF xs a x = xs := by simp [putF, putOk, hp]
    have hp' : putOk xs a x = false := hp
    have HP := Lib.hid hp'
    have HF := Lib.hid hf
    clear hp' hf
    go_wp2_with fail
    refine (cloneSlots _ xs _ (HR.out.below hB3) (by omega)).mono ?_
    rintro e w4 ⟨v4, rfl, hO4, hB4⟩
    obtain ⟨bs4, hw4, hl4⟩ := Own.of_owns hO4
    go_wp2_with fail
    exact bodyPost_ret (v := .tuple #[v4, .bool false]) (by simp [results, Try.results166, go_sem]) rfl ⟨_, bs4, by rw [HP.out], by rw [HF.out]; exact hw4, fun b hb => Nat.le_trans hB3.size (hl4 b hb), hB3.trans (hB4.mono hB3.size)⟩
  · have hf : putF xs a x = xs ++ [⟨a, x⟩] := by simp [putF, putOk, hp]
    have hp' : putOk xs a x = true := hp
    have HP := Lib.hid hp'
    have HF := Lib.hid hf
    clear hp' hf
    go_wp2_with fail
    exact bodyPost_ret (v := .tuple #[v2, .bool true]) (by simp [results, Try.results166, go_sem]) rfl ⟨_, bs, by rw [HP.out], by rw [HF.out]; exact hO3, hlo2, hB3⟩
end Go.Proofs.Ytiflooopfpcelaa
