/- Contract of impl.AddressesOf: it answers as the model does. Condition: the code can be read. -/
import Derived.Test.YtfnijeacmgjgdaaA2
import Derived.Test.YtfnijeacmgjgdaaShelfS
import Derived.Sort.OwnSortedInts
namespace Go.Proofs.Ytfnijeacmgjgdaa
set_option maxRecDepth 20000
set_option linter.unusedSimpArgs false
set_option linter.unusedVariables false
open Go.ChangeShapes Go.WideShapes Go.ChangeAt Go.RowKit Go.Sort
set_option linter.unusedVariables false
theorem sort_own (v : Value) (base : Nat) (xs : List Int) (w : World) (h : w.ownsRow base 3 1 v xs.length (ints xs)) (hb : base ≤ w.heap.size) (hm : xs.length ≤ 1000000) :
    Calls Try.prog 46 #[v] w fun e w' => e = .returned (.tuple #[]) ∧ w'.ownsRow base 3 1 v (sortI xs).length (ints (sortI xs)) ∧ Below base w w' := by
  obtain ⟨hl, ⟨rfl, h0⟩ | ⟨g, cap, cur, rfl, hg, hcur, hn, hmx, hcs, ht⟩⟩ := id h
  · have hx : xs = [] := List.length_eq_zero_iff.1 h0
    subst hx
    refine (Try.slices_Sort_int_none none 0 w).mono ?_
    rintro e w' ⟨rfl, rfl⟩
    exact ⟨rfl, by rw [show sortI [] = [] by simp [sortI]]; exact h, Below.refl _ _⟩
  · refine (Try.slices_Sort_int g 0 cap xs w (holds_of_blockI hcur (by rw [Nat.mul_one] at ht; exact ht)) (Array.getElem?_eq_some_iff.1 hcur).1 (by omega)).mono ?_
    rintro e w' ⟨rfl, n, os, rfl⟩
    have h1 := ownsRow_sortedI (n := n) (os := os) (ss := xs) (ts := sortI xs) (sortI_len xs) hg hcur hn hmx hcs
    have h2 := grownBy_sortedI (w := w) (g := g) (n := n) (os := os) (sortI xs).toArray
    refine ⟨rfl, ?_, ?_⟩
    · rw [sortI_len]
      exact h1
    · exact (Below.refl base w).grown h2 hb (fun k hk => by injection hk with hk; omega)
theorem compact_own (v : Value) (base : Nat) (xs : List Int) (w : World) (h : w.ownsRow base 3 1 v xs.length (ints xs)) (hb : base ≤ w.heap.size) (hm : xs.length ≤ 1000000) :
    Calls Try.prog 47 #[v] w fun e w' => ∃ v', e = .returned v' ∧ w'.ownsRow base 3 1 v' (Lib.compact xs).length (ints (Lib.compact xs)) ∧ Below base w w' := by
  have hcl := compact_len xs
  obtain ⟨hl, ⟨rfl, h0⟩ | ⟨g, cap, cur, rfl, hg, hcur, hn, hmx, hcs, ht⟩⟩ := id h
  · have hx : xs = [] := List.length_eq_zero_iff.1 h0
    subst hx
    refine (Try.slices_Compact_int_empty none 0 w).mono ?_
    rintro e w' ⟨rfl, rfl⟩
    exact ⟨_, rfl, h, Below.refl _ _⟩
  · refine (Try.slices_Compact_int g 0 cap xs w (holds_of_blockI hcur (by rw [Nat.mul_one] at ht; exact ht)) (by omega) hn).mono ?_
    rintro e w' ⟨rfl, n, rfl⟩
    generalize hd : (Lib.compact xs ++ List.replicate (xs.length - (Lib.compact xs).length) 0) = ts
    have htl : ts.length = xs.length := by rw [← hd]; simp; omega
    have h1 := ownsRow_sortedI (n := n) (os := #[]) (ss := xs) (ts := ts) htl hg hcur hn hmx hcs
    have h2 := grownBy_sortedI (w := w) (g := g) (n := n) (os := #[]) ts.toArray
    rw [grow_empty] at h1 h2
    refine ⟨_, rfl, ?_, ?_⟩
    · obtain ⟨_, ⟨h3, _⟩ | ⟨g', cap', cur', h3, h4, h5, h6, h7, h8, h9⟩⟩ := h1
      · cases h3
      · injection h3 with e1 e2 e3
        subst e3
        injection e1 with e1
        injection e1 with e1
        subst e1
        refine ⟨by simp [ints], .inr ⟨g, cap, cur', rfl, h4, h5, by omega, h7, h8, ?_⟩⟩
        have h10 := congrArg (List.take (Lib.compact xs).length) h9
        rw [List.take_take, Nat.mul_one, Nat.min_eq_left hcl] at h10
        rw [Nat.mul_one, h10, ← hd]
        simp [ints]
    · exact (Below.refl base w).grown h2 hb (fun k hk => by injection hk with hk; omega)
set_option maxHeartbeats 1600000 in
theorem impl_AddressesOf (v : Value) (xs : List Ins) (w : World) (h : Rd w v 4 xs.length (flc xs)) :
    Calls Try.prog 21 #[v] w (RetInts (addrF xs) w) := by
  obtain ⟨A, c, rfl, -, hnc, hc, hr⟩ := h
  unfold maxLen at hc
  obtain ⟨i, hi, hiz0, hiz1, hiz2⟩ := info_parts infoInt
  by_cases hlen : xs.length ≤ 16
  · have HF : Hid (addrF xs = Lib.compact (sortI (addrRaw xs))) := Lib.hid (by rw [compact_sort]; simp [addrF, hlen])
    go_enter Try.func21, Try.ntmps21
    go_wp2_with fail
    go_loopw [3, 11] (fun v j wr => ∃ (k : Nat) (L : List Int), k ≤ xs.length ∧ j = .int .i64 k ∧ L.length ≤ k ∧ Hid (L = addrRaw (xs.take k)) ∧ wr.ownsRow w.heap.size 3 1 v L.length (ints L) ∧ Below w.heap.size w wr) (fun _ j _ => xs.length - (intOf j).toNat)
    case atStart => exact ⟨0, [], Nat.zero_le _, rfl, Nat.le_refl _, Lib.hid rfl, ⟨rfl, .inl ⟨rfl, rfl⟩⟩, Below.refl _ _⟩
    case round =>
      obtain ⟨k, L, hk, rfl, hL, HL, hO, hB⟩ := hrel
      by_cases hlt : k < xs.length
      · obtain ⟨b, o, rfl, hb, hcell⟩ := hr (by omega)
        obtain ⟨x, hxk, hx0, hx1, hx2, hx3⟩ := ins_at (fun j u hu => (hB.cell (p := ⟨b, o + j, none⟩) hb).trans (hcell j u hu)) hlt
        have HS := Lib.hid (addrRaw_snoc hxk.out)
        have k1 := Bk.new wr #[.int .i64 x.o, .int .i64 x.r, .int .i64 x.s, .int .i64 x.n] 25
        have hBa := hB.alloc hB.size (.cells #[.int .i64 x.o, .int .i64 x.r, .int .i64 x.s, .int .i64 x.n] 25)
        have hOa := hO.alloc (.cells #[.int .i64 x.o, .int .i64 x.r, .int .i64 x.s, .int .i64 x.n] 25)
        clear hcell hr
        have hU := fun W : World => oc_usesAddress x.o W
        cases hA : inA x.o
        · rw [hA] at hU HS
          have HU := Lib.hid hU
          clear hA hU
          go_wp2_with fail
          refine (ins_op x _).mono ?_
          rintro e w1 ⟨rfl, hb1⟩
          go_wp2_with fail
          refine (HU.out _).mono ?_
          rintro e w2 ⟨rfl, hb2⟩
          have hb12 := hb1.trans (hb2.mono hb1.size)
          go_wp2_with fail
          exact ⟨⟨k + 1, L, by omega, by go_num, by omega, Lib.hid (by rw [HS.out, HL.out]; simp), ownsRow_below hOa hb12, hBa.trans (hb12.mono hBa.size)⟩, by simp [intOf]; omega⟩
        · rw [hA] at hU HS
          have HU := Lib.hid hU
          clear hA hU
          go_wp2_with fail
          refine (ins_op x _).mono ?_
          rintro e w1 ⟨rfl, hb1⟩
          go_wp2_with fail
          refine (HU.out _).mono ?_
          rintro e w2 ⟨rfl, hb2⟩
          have hb12 := hb1.trans (hb2.mono hb1.size)
          have k2 := k1.below hb12 k1.lt
          obtain ⟨hk3, -⟩ := k2.at_ 3 rfl
          have hO2 := ownsRow_below hOa hb12
          have hB2 := hBa.trans (hb12.mono hBa.size)
          clear hx0 hx1 hx2 hx3
          go_wp2_with (at_builtin; refine wpList_append_own _ rfl _ _ 43 rfl (w.heap.size) 3 i (.int .i64 0) 1 8 Try.underlying43 hi hiz0 hiz1 hiz2 rfl (by decide) _ _ _ rfl (hO2.alloc _) ⟨w2.heap.size, 0, none⟩ 1 1 [.int .i64 x.n] rfl rfl ?aq1 ?aq2 ?aq3 ?aq4 ?aq5 ?_)
          case aq1 => exact new_cells _ _ _
          case aq2 => simp [Value.oneCell']
          case aq3 => unfold maxLen; omega
          case aq4 => omega
          case aq5 => have := hB2.size; simp; omega
          intro v3 w3 hown3 hg3 _
          have hB3 := (hB2.alloc hB2.size _).grown hg3 (by have := hB2.size; simp; omega) (fun k hk => by have := (hO2.lt k hk).1; omega)
          go_wp2_with fail
          exact ⟨⟨k + 1, L ++ [x.n], by omega, by go_num, by simp; omega, Lib.hid (by rw [HS.out, HL.out]; simp), owns_snoc hown3, hB3⟩, by simp [intOf]; omega⟩
      · obtain rfl : k = xs.length := by omega
        have HN := HL.out
        rw [List.take_length] at HN
        have HN := Lib.hid HN
        have hS := sort_own _ _ L _ hO hB.size (by omega)
        clear hr
        go_wp2_with fail
        refine hS.mono ?_
        rintro e w1 ⟨rfl, hO1, hb1⟩
        have hBx := hB.trans hb1
        have hC := compact_own _ _ (sortI L) _ hO1 hBx.size (by rw [sortI_len]; omega)
        go_wp2_with fail
        refine hC.mono ?_
        rintro e w2 ⟨v2, rfl, hO2, hb2⟩
        obtain ⟨bs, h1, h2⟩ := Own.of_owns hO2
        go_wp2_with fail
        go_ret
        exact ⟨_, bs, rfl, by rw [HF.out, ← HN.out]; exact h1, h2, hBx.trans hb2⟩
  · have HF : Hid (addrF xs = []) := Lib.hid (by simp [addrF, hlen])
    clear hr
    go_enter Try.func21, Try.ntmps21
    go_wp2_with fail
    go_ret
    exact ⟨_, [], rfl, by rw [HF.out]; exact Own.nil _ _, by simp, Below.refl _ _⟩
end Go.Proofs.Ytfnijeacmgjgdaa
