/- Contract of spec.l04Copy. Condition: the machine can be read; lengths that a law bounds. -/
import Derived.Test.YtiflooopfpcelaaGreatC10
import Derived.Test.YtiflooopfpcelaaGreatC12
import Derived.Test.YtiflooopfpcelaaGreatHeads
import Derived.Test.YtiflooopfpcelaaGreatB3
namespace Go.Proofs.YtiflooopfpcelaaGreat
set_option maxRecDepth 20000
set_option linter.unusedSimpArgs false
set_option linter.unusedVariables false
open Go.ChangeShapes Go.WideShapes Go.ChangeAt Go.RowKit
set_option linter.unusedVariables false
set_option maxHeartbeats 400000 in
theorem l01CopyT (v : Value) (xs : List Int) (w : World) (h : Rd w v 1 xs.length (ints xs)) (hsz : xs.length ≤ 16777216) :
    Calls Tryz.prog 75 #[v] w fun e w' => ∃ v', e = .returned v' ∧ w'.ownsRow w.heap.size 3 1 v' xs.length (ints xs) ∧ Below w.heap.size w w' := by
  obtain ⟨A, c, rfl, -, hnc, hc, hr⟩ := h
  unfold maxLen at hc
  obtain ⟨i, hi, hiz0, hiz1, hiz2⟩ := info_parts infoInt
  go_enter Tryz.func75, Tryz.ntmps75
  go_wp2_with fail
  go_loopw [3, 4] (fun v i wr => ∃ k : Nat, k ≤ xs.length ∧ i = .int .i64 k ∧ wr.ownsRow w.heap.size 3 1 v k (ints (xs.take k)) ∧ Below w.heap.size w wr) (fun _ i _ => xs.length - (intOf i).toNat)
  case atStart => exact ⟨0, Nat.zero_le _, rfl, World.ownsRow_lit w #[] 0 (Nat.le_refl _) (by simp [maxLen]) rfl, (Below.refl _ _).alloc (Nat.le_refl _) _⟩
  case round =>
    obtain ⟨k, hk, rfl, hO, hB⟩ := hrel
    by_cases hlt : k < xs.length
    · obtain ⟨b, o, rfl, hb, hcell⟩ := hr (by omega)
      have hcell' : ∀ j u, (ints xs)[j]? = some u → wr.cell? ⟨b, o + j, none⟩ = some u := fun j u hu => (hB.cell (p := ⟨b, o + j, none⟩) hb).trans (hcell j u hu)
      obtain ⟨x, hxk, hx⟩ := int_at hcell' hlt
      clear hcell hcell' hr
      have hbw : b < wr.heap.size := Nat.lt_of_lt_of_le hb hB.size
      go_wp2_with ((at_builtin; refine wpList_append_own _ rfl _ _ 25 rfl (w.heap.size) 3 i (.int .i64 0) 1 8 Tryz.underlying25 hi hiz0 hiz1 hiz2 rfl (by decide) _ _ _ rfl (hO.alloc _) ⟨wr.heap.size, 0, none⟩ 1 1 [.int .i64 x] rfl rfl ?c1 ?c2 ?c3 ?c4 ?c5 ?_))
      case c1 => exact new_cells _ _ _
      case c2 => simp [Value.oneCell']
      case c3 => unfold maxLen; omega
      case c4 => omega
      case c5 => have := hB.size; simp; omega
      intro v' w1 hown' hgrow _
      have hB' := (hB.alloc hB.size _).grown hgrow (by have := hB.size; simp; omega) (fun k hk => by have := (hO.lt k hk).1; omega)
      rw [ints_snoc hxk.out] at hown'
      clear hgrow
      go_wp2_with fail
      exact ⟨⟨k + 1, by omega, by go_num, hown', hB'⟩, by simp [intOf]; omega⟩
    · go_wp2_with fail
      go_ret
      obtain rfl : k = xs.length := by omega
      rw [List.take_length] at hO
      exact ⟨_, rfl, hO, hB⟩
theorem nt_of_owns {w : World} {base : Nat} {e T : TypeId} {size n m s : Nat} {v : Value} {xs cs : List Value} {bs : List Nat} (h : w.ownsRow base e size v n xs) (ho : Own w v s m cs bs) (hne : e ≠ T) : NT T w bs := fun b hb => by
  obtain ⟨ds, hd⟩ := owns_bk h ho b hb
  exact ⟨ds, e, hne, hd⟩
/-- the buffers' rows are known whole: their blocks are their own, or nobody's -/
def BufsT (w : World) (base : Nat) (ths : List Th) (vs : List (Value × Value)) (qs : List (List Nat × List Nat)) : Prop :=
  ∀ (j : Nat) (t : Th) (p : Value × Value) (q : List Nat × List Nat), ths[j]? = some t → vs[j]? = some p → qs[j]? = some q → w.ownsRow base 106 2 p.2 t.f.length (flc2 t.f) ∧ ∀ g, p.2.ownBlock = some g → g ∈ q.2 ∨ g ∉ blks (thRows ths vs qs)
theorem BufsT.of_blocks {w w' : World} {base : Nat} {ths : List Th} {vs : List (Value × Value)} {qs : List (List Nat × List Nat)} (h : BufsT w base ths vs qs) (hk : ∀ b ds, Bk w b ds 106 → base ≤ b → w'.heap[b]? = w.heap[b]?) : BufsT w' base ths vs qs := by
  intro j t p q ht hp hq
  obtain ⟨⟨hl, h1⟩, h2⟩ := h j t p q ht hp hq
  refine ⟨⟨hl, ?_⟩, h2⟩
  rcases h1 with h1 | ⟨g, cap, cur, h3, h4, hg, h5⟩
  · exact .inl h1
  · exact .inr ⟨g, cap, cur, h3, h4, (hk g cur hg h4).trans hg, h5⟩
theorem BufsT.below {w w' : World} {base : Nat} {ths : List Th} {vs : List (Value × Value)} {qs : List (List Nat × List Nat)} (h : BufsT w base ths vs qs) (hb : Below w.heap.size w w') : BufsT w' base ths vs qs :=
  h.of_blocks fun b ds hd _ => hb.block b (Bk.lt hd)
/-- returns a machine of its own, of which more is known -/
def RetMaT (M : Ma) (w : World) (e : Ending) (w' : World) : Prop :=
  ∃ mv tv vs qs bm bt, e = .returned (.agg #[mv, tv]) ∧ Own w' mv 1 M.mem.length (ints M.mem) bm ∧ OwnT w' tv M.ths vs qs bt ∧ (BufsT w' (w.heap.size + 2) M.ths vs qs ∧ ∀ (j : Nat) (t : Th) (p : Value × Value) (q : List Nat × List Nat), M.ths[j]? = some t → vs[j]? = some p → qs[j]? = some q → ∀ g, p.2.ownBlock = some g → g ∉ bm ++ bt) ∧
    (∀ b ∈ bm, b ∉ bt ++ blks (thRows M.ths vs qs)) ∧ (∀ b ∈ bm, w.heap.size + 2 ≤ b) ∧ (∀ b ∈ bt ++ blks (thRows M.ths vs qs), w.heap.size + 2 ≤ b) ∧ Below w.heap.size w w'
theorem RetMaT.plain {M : Ma} {w : World} {e : Ending} {w' : World} (h : RetMaT M w e w') : RetMa M w e w' := by
  obtain ⟨mv, tv, vs, qs, bm, bt, he, h1, h2, -, h3, h4, h5, h6⟩ := h
  have hT := h2.toTS
  rw [blks_cons] at hT
  refine ⟨mv, tv, bm ++ (bt ++ blks (thRows M.ths vs qs)), he, OwnMa.mk h1 hT h3, fun b hb => ?_, h6⟩
  rcases List.mem_append.1 hb with h | h
  · have := h4 b h; omega
  · have := h5 b h; omega
set_option maxHeartbeats 6400000 in
theorem l04CopyT (mv tv : Value) (M : Ma) (w : World) (h : RdMa w mv tv M) (hsz : totMa M ≤ 16777215) :
    Calls Tryz.prog 36 #[.agg #[mv, tv]] w (RetMaT M w) := by
  obtain ⟨A0, c0, B0, d0, rfl, rfl, -, hBd, hcc, hdc⟩ := h.slices
  have hmem := h.mem
  obtain ⟨vs0, hvl, ⟨A', c', hAe, -, -, -, hrT⟩, hin⟩ := h.ths
  injection hAe with hAe1 _ hAe3
  subst hAe1 hAe3
  have hsm : M.mem.length ≤ 16777215 ∧ totTS M.ths ≤ 16777215 := by unfold totMa at hsz; omega
  have hsn : M.ths.length ≤ 16777215 := by have := hsm.2; unfold totTS at this; omega
  have hB0 := ((Below.refl w.heap.size w).alloc (Nat.le_refl _) (.cells #[.slice A0 M.mem.length c0, .slice B0 M.ths.length d0] 38)).alloc (by simp) (.cells #[.slice none 0 0, .slice none 0 0] 38)
  have k0 := (Bk.new w #[.slice A0 M.mem.length c0, .slice B0 M.ths.length d0] 38).alloc (.cells #[.slice none 0 0, .slice none 0 0] 38)
  have k1 := Bk.new (w.alloc (.cells #[.slice A0 M.mem.length c0, .slice B0 M.ths.length d0] 38)) #[.slice none 0 0, .slice none 0 0] 38
  simp only [World.size_alloc] at k1
  have hC := l03Mem _ M.mem _ (hmem.below hB0) (by omega)
  have HC := Lib.hid hC
  have HB0 := Lib.hid hB0
  have HIN := Lib.hid hin
  have HRT := Lib.hid hrT
  obtain ⟨i, hi, hz0, hz1, hz2⟩ := info_parts infoTh
  clear hB0 hC hmem hin hrT
  go_enter Tryz.func36, Tryz.ntmps36
  go_wp2_with fail
  refine HC.out.mono ?_
  rintro e w2 ⟨v2, bm, rfl, hM0, hbm, hb2⟩
  obtain ⟨A2, c2, rfl, -, -⟩ := hM0.slice
  have hB2 := HB0.out.trans (hb2.mono HB0.out.size)
  have hbm2 := hM0.lt
  have hs2 := hb2.size
  simp only [World.size_alloc] at hs2
  have hal := (Below.refl w2.heap.size w2).alloc (Nat.le_refl _) (.cells #[.slice A2 M.mem.length c2, .slice none 0 0] 38)
  have R0 := (k0.below hb2 k0.lt).alloc (.cells #[.slice A2 M.mem.length c2, .slice none 0 0] 38)
  have R1 := (k1.below hb2 k1.lt).alloc (.cells #[.slice A2 M.mem.length c2, .slice none 0 0] 38)
  have R2 := Bk.new w2 #[.slice A2 M.mem.length c2, .slice none 0 0] 38
  have hM1 := hM0.below hal
  have hB3 := hB2.alloc hB2.size (.cells #[.slice A2 M.mem.length c2, .slice none 0 0] 38)
  clear hM0 hal hB2 k0 k1 hb2 HC
  go_wp2_with fail
  go_loopw [4] (fun l wr => ∃ (k : Nat) (At : Option Addr) (ct : Nat) (vs : List (Value × Value)) (qs : List (List Nat × List Nat)), k ≤ M.ths.length ∧ l = .int .i64 k ∧ Hid (vs.length = k ∧ qs.length = k) ∧
    wr.ownsRow (w2.heap.size + 1) 73 3 (.slice At k ct) k (thCs (M.ths.take k) vs) ∧ OwnR wr (thRows (M.ths.take k) vs qs) ∧ Hid (NT 73 wr (blks (thRows (M.ths.take k) vs qs)) ∧ (∀ b ∈ blks (thRows (M.ths.take k) vs qs), w2.heap.size + 1 ≤ b) ∧ BufsT wr (w2.heap.size + 1) (M.ths.take k) vs qs) ∧
    Below w.heap.size w wr ∧ Bk wr w.heap.size #[.slice A0 M.mem.length c0, .slice B0 M.ths.length d0] 38 ∧ Bk wr (w.heap.size + 1) #[.slice none 0 0, .slice none 0 0] 38 ∧
    Bk wr w2.heap.size #[.slice A2 M.mem.length c2, .slice At k ct] 38 ∧ Own wr (.slice A2 M.mem.length c2) 1 M.mem.length (ints M.mem) bm) (fun l _ => M.ths.length - (intOf l).toNat)
  case atStart => exact ⟨0, none, 0, [], [], Nat.zero_le _, rfl, Lib.hid ⟨rfl, rfl⟩, World.ownsRow_nil _ _ _ _, OwnR.nil _, Lib.hid ⟨by simp [thRows, blks, NT], by simp [thRows, blks], fun j t p q ht => by simp at ht⟩, hB3, R0, R1, R2, hM1⟩
  case round =>
    obtain ⟨k, At, ct, vs, qs, hk, rfl, HL, hO, hI, HBS, hB, q0, q1, q2, hM⟩ := hrel
    clear hB3 R0 R1 R2 hM1
    obtain ⟨y1, -⟩ := q0.at_ 1 (x := .slice B0 M.ths.length d0) rfl
    by_cases hlt : k < M.ths.length
    · obtain ⟨bT, oT, rfl, hbT, hcT⟩ := HRT.out (by omega)
      obtain ⟨t, a1, a2, HT, HPv, hx0, hx1, hx2⟩ := th_at hvl hcT hlt hB hbT
      obtain ⟨ra, rb⟩ := HIN.out k t (a1, a2) HT.out HPv.out
      have htt := totTS_mem HT.out
      have hvl2 : t.v.length ≤ 16777215 ∧ t.f.length ≤ 16777215 := by unfold totTh at htt; omega
      have lT : bT < wr.heap.size := Nat.lt_of_lt_of_le hbT hB.size
      have P0 := fun q : Past wr => Past.cell q0.lt y1 q
      have P1 := fun q : Past wr => Past.cell q2.lt (q2.at_ 1 (x := .slice At k ct) rfl).1 q
      have P2 := fun q : Past wr => Past.cell lT hx0 q
      have P3 := fun q : Past wr => Past.cell lT hx1 q
      have P4 := fun q : Past wr => Past.cell lT hx2 q
      have hlt' : (k : Int) < M.ths.length := by omega
      have RA := Lib.hid (ra.below hB)
      have RB := Lib.hid (rb.below hB)
      have HOO := Lib.hid (And.intro hO (And.intro hI (And.intro hB (And.intro q0 (And.intro q1 (And.intro q2 hM))))))
      have lq2 := q2.lt
      clear hO hI q1 hM ra rb hx0 hx1 hx2 hcT
      go_wp2_with fail
      refine wp_region_two 24 24 (fun w' => ∃ q : Past wr, w' = q.v) (fun _ => True) (by kernel_rfl) ?_
      refine wpAnyX_pass (C := (fun w' => ∃ q : Past wr, w' = q.v)) (some false) [true, true, true, true, true, true, true, true, true, true, true, true, true, true, false, true, true, true, true, true, true] rfl (by kernel_rfl) (fun _ _ t _ _ h => by cases t <;> exact h) ⟨fun _ => ⟨⟨wr.drew, (Below.refl _ _).drew⟩, rfl⟩, fun _ => trivial⟩ ?_
      simp only [keepOps]
      repeat (go_big_quiet_step (fail))
      refine wpQuiet_nil ?_
      clear P0 P1 P2 P3 P4
      refine wpAnyX_one 14 rfl (by kernel_rfl) (by kernel_rfl) ?_
      go_wp2_with fail
      refine (l01CopyT _ t.v _ (RA.out.below (Below.refl _ _).drew) (by omega)).mono ?_
      rintro e w3 ⟨v3, rfl, hO3, hb3'⟩
      obtain ⟨A3, c3, rfl⟩ := owns_form hO3
      have hb3 := (Below.refl wr.heap.size wr).drew.trans hb3'
      go_wp2_with fail
      refine ⟨⟨fun _ => ⟨⟨w3, hb3⟩, rfl⟩, fun _ => trivial⟩, ?_⟩
      refine wpAnyX_one 21 rfl (by kernel_rfl) (by kernel_rfl) ?_
      go_wp2_with fail
      refine (l03Copy _ t.f _ (RB.out.below hb3) (by omega)).mono ?_
      rintro e w4 ⟨v4, rfl, hO4, hb4⟩
      obtain ⟨A4, c4, rfl⟩ := owns_form hO4
      have hb34 := hb3.trans (hb4.mono hb3.size)
      go_wp2_with fail
      refine ⟨⟨fun _ => ⟨⟨w4, hb34⟩, rfl⟩, fun _ => trivial⟩, ?_⟩
      refine wpAnyX_pass (C := (fun _ => True)) none [false, false, false, false, false, false, false, false, false, false, false, false, false, false, false, false, false, false, false, false, false, false, true] rfl (by kernel_rfl) (fun _ _ t _ _ h => by cases t <;> exact h) ⟨fun _ => ⟨⟨w4, hb34⟩, rfl⟩, fun _ => trivial⟩ ?_
      simp only [keepOps]
      repeat (go_big_quiet_step (fail))
      refine wpQuiet_nil ?_
      refine wpAnyX_one 23 rfl (by kernel_rfl) (by kernel_rfl) ?_
      go_wp2_with fail
      have hW5 := (Below.refl w4.heap.size w4).alloc (Nat.le_refl _) (.cells #[.int .i64 t.pc, .slice A3 t.v.length c3, .slice A4 t.f.length c4] 73)
      have hWa := hb34.trans (hW5.mono hb34.size)
      refine ⟨⟨fun _ => ⟨⟨_, hWa⟩, rfl⟩, fun _ => trivial⟩, ?_⟩
      obtain ⟨hO, hI, hBr, q0, q1, q2, hM⟩ := HOO.out
      have kn5 := Bk.new w4 #[.int .i64 t.pc, .slice A3 t.v.length c3, .slice A4 t.f.length c4] 73
      have hO5 := ownsRow_below hO hWa
      have hI5 := hI.below hWa
      have hN5 := HBS.out.1.below hI.lt hWa
      have hilt := hI.lt
      have hv3 := ownsRow_below (ownsRow_below hO3 hb4) hW5
      have hv4 := ownsRow_below hO4 hW5
      obtain ⟨b3, ho30, hl3'⟩ := Own.of_owns hO3
      obtain ⟨b4, ho40, hl4'⟩ := Own.of_owns hO4
      have hl3 : ∀ b ∈ b3, wr.heap.size ≤ b := hl3'
      have hl4 : ∀ b ∈ b4, w3.heap.size ≤ b := hl4'
      have hi3 := ho30.lt
      have ho3 := (ho30.below hb4).below hW5
      have ho4 := ho40.below hW5
      have h34 : ∀ x ∈ b3, x ∉ b4 := fun x hx hm => by have := hi3 x hx; have := hl4 x hm; omega
      have hs3 := hb3.size
      have hsr := hb34.size
      have hv' : vs.length = (M.ths.take k).length := by rw [List.length_take, HL.out.1]; omega
      have hq' : qs.length = (M.ths.take k).length := by rw [List.length_take, HL.out.2]; omega
      have hI6 := rows_snoc (t := t) hv' hq' hI5 ho3 ho4 h34 (fun x hx hm => by have := hl3 x hx; have := hilt x hm; omega) (fun x hx hm => by have := hl4 x hx; have := hilt x hm; omega)
      have hBS6 := blks_snoc (t := t) (a := .slice A3 t.v.length c3) (b := .slice A4 t.f.length c4) (ba := b3) (bb := b4) hv' hq' HBS.out.2.1 (fun x hx => by have := hl3 x hx; show w2.heap.size + 1 ≤ x; omega) (fun x hx => by have := hl4 x hx; show w2.heap.size + 1 ≤ x; omega)
      have hN6 : NT 73 (w4.alloc (.cells #[.int .i64 t.pc, .slice A3 t.v.length c3, .slice A4 t.f.length c4] 73)) (blks (thRows (M.ths.take k ++ [t]) (vs ++ [(.slice A3 t.v.length c3, .slice A4 t.f.length c4)]) (qs ++ [(b3, b4)]))) := by
        rw [thRows_append hv' hq', blks_append]
        refine hN5.app ?_
        have e : blks (thRows [t] [(.slice A3 t.v.length c3, .slice A4 t.f.length c4)] [(b3, b4)]) = b3 ++ b4 := by simp [thRows, blks, vRow, fRow]
        rw [e]
        exact (nt_of_owns hv3 ho3 (by decide)).app (nt_of_owns hv4 ho4 (by decide))
      rw [← take_succ_at HT.out] at hI6 hBS6 hN6
      have hc6 : thCs (M.ths.take k) vs ++ [.int .i64 t.pc, .slice A3 t.v.length c3, .slice A4 t.f.length c4] = thCs (M.ths.take (k + 1)) (vs ++ [(.slice A3 t.v.length c3, .slice A4 t.f.length c4)]) := by
        rw [take_succ_at HT.out, thCs_append hv']
        rfl
      have hOlt := fun q hq => (hO5.lt q hq).1
      have hBT := HBS.out.2.2.below hWa
      have hBT6 : BufsT (w4.alloc (.cells #[.int .i64 t.pc, .slice A3 t.v.length c3, .slice A4 t.f.length c4] 73)) (w2.heap.size + 1) (M.ths.take (k + 1)) (vs ++ [(.slice A3 t.v.length c3, .slice A4 t.f.length c4)]) (qs ++ [(b3, b4)]) := by
        rw [take_succ_at HT.out]
        intro j u p q hu hp hq
        rw [thRows_append hv' hq', blks_append]
        have e : blks (thRows [t] [(.slice A3 t.v.length c3, .slice A4 t.f.length c4)] [(b3, b4)]) = b3 ++ b4 := by simp [thRows, blks, vRow, fRow]
        rw [e]
        by_cases hj : j < k
        · have hlk : (M.ths.take k).length = k := by rw [List.length_take]; omega
          rw [List.getElem?_append_left (by omega)] at hu
          rw [List.getElem?_append_left (by rw [HL.out.1]; exact hj)] at hp
          rw [List.getElem?_append_left (by rw [HL.out.2]; exact hj)] at hq
          obtain ⟨z1, z2⟩ := hBT j u p q hu hp hq
          obtain ⟨z3, -⟩ := HBS.out.2.2 j u p q hu hp hq
          refine ⟨z1, fun g hg => ?_⟩
          rcases z2 g hg with z | z
          · exact .inl z
          · refine .inr fun hm => ?_
            have hgl := (z3.lt g hg).2
            rcases List.mem_append.1 hm with hm | hm
            · exact z hm
            · rcases List.mem_append.1 hm with hm | hm
              · have := hl3 g hm; omega
              · have := hl4 g hm; omega
        · have hlk : (M.ths.take k).length = k := by rw [List.length_take]; omega
          have hjk : j = k := by
            have := (List.getElem?_eq_some_iff.1 hu).1
            simp only [List.length_append, hlk, List.length_cons, List.length_nil] at this
            omega
          subst hjk
          rw [List.getElem?_append_right (by omega), hlk, Nat.sub_self] at hu
          rw [List.getElem?_append_right (by rw [HL.out.1]; exact Nat.le_refl _), HL.out.1, Nat.sub_self] at hp
          rw [List.getElem?_append_right (by rw [HL.out.2]; exact Nat.le_refl _), HL.out.2, Nat.sub_self] at hq
          simp only [List.getElem?_cons_zero, Option.some.injEq] at hu hp hq
          subst hu hp hq
          refine ⟨owns_lower hv4 (by omega), fun g hg => ?_⟩
          obtain ⟨z1, z2⟩ := hO4.lt g hg
          have z3 : w3.heap.size ≤ g := z1
          by_cases hgb : g ∈ b4
          · exact .inl hgb
          refine .inr fun hm => ?_
          rcases List.mem_append.1 hm with hm | hm
          · have := hilt g hm; omega
          · rcases List.mem_append.1 hm with hm | hm
            · have := hi3 g hm; omega
            · exact hgb hm
      have HQ := Lib.hid (And.intro (q0.below hWa q0.lt) (And.intro (q1.below hWa q1.lt) (And.intro (q2.below hWa q2.lt) (And.intro (hM.below hWa) (hBr.trans (hWa.mono hBr.size))))))
      have HP := Lib.hid (And.intro hI6 (And.intro hN6 (And.intro hBS6 hBT6)))
      have HC6 := Lib.hid hc6
      have HO5 := Lib.hid hO5
      have HOlt := Lib.hid hOlt
      have HBm := Lib.hid hbm2
      have hsz5 := hWa.size
      have hkn : ∀ j u, ([.int .i64 t.pc, .slice A3 t.v.length c3, .slice A4 t.f.length c4] : List Value)[j]? = some u → (w4.alloc (.cells #[.int .i64 t.pc, .slice A3 t.v.length c3, .slice A4 t.f.length c4] 73)).cell? ((⟨w4.heap.size, 0, none⟩ : Addr).add j) = some u := new_cells _ _ _
      have HKN := Lib.hid hkn
      clear hO hI hBr q0 q1 q2 hM kn5 hO5 hI5 hN5 hilt hv3 hv4 ho3 ho4 hl3 hl4 hl3' hl4' ho30 ho40 hi3 h34 hv' hq' hI6 hBS6 hN6 hc6 hOlt hkn hBT hBT6 hO3 hO4 hb3' hb3 hb4 hb34 hW5
      refine wpAnyX_one 24 rfl (by kernel_rfl) (by kernel_rfl) ?_
      simp only [List.getElem_toArray, List.getElem_cons_succ, List.getElem_cons_zero]
      (at_builtin; refine wpList_append_own _ rfl _ _ 36 rfl (w2.heap.size + 1) 73 i (.agg #[.int .i64 0, .slice none 0 0, .slice none 0 0]) 3 56 Tryz.underlying36 hi hz0 hz1 hz2 rfl (by decide) _ k (thCs (M.ths.take k) vs) rfl HO5.out ⟨w4.heap.size, 0, none⟩ 1 1 [.int .i64 t.pc, .slice A3 t.v.length c3, .slice A4 t.f.length c4] rfl rfl HKN.out (by simp [Value.oneCell']) (by unfold maxLen; omega) (by omega) (by simp; omega) ?_)
      intro v7 w7 hown7 hg7 _
      obtain ⟨A7, c7, rfl⟩ := owns_form hown7
      go_wp2_with fail
      refine ⟨⟨fun h => absurd (show true = false from h) (by decide), fun _ => trivial⟩, ?_⟩
      refine wpAnyX_pass (C := (fun _ => True)) none [false, false, false, false, false, false, false, false, false, false, false, false, false, false, false, false, false, false, false, false, false, false, false, false, false, true] rfl (by kernel_rfl) (fun _ _ t _ _ h => by cases t <;> exact h) ⟨fun h => absurd (show true = false from h) (by decide), fun _ => trivial⟩ ?_
      simp only [keepOps]
      repeat (go_big_quiet_step (fail))
      refine wpQuiet_nil ?_
      have q07 := Bk.grown HQ.out.1 hg7 (fun q hq => by have := HOlt.out q hq; omega)
      have q17 := Bk.grown HQ.out.2.1 hg7 (fun q hq => by have := HOlt.out q hq; omega)
      have q27 := Bk.grown HQ.out.2.2.1 hg7 (fun q hq => by have := HOlt.out q hq; omega)
      have hg := grow_rows HO5.out HP.out.1 HP.out.2.1 hg7
      have hM7 := Own.of_blocks HQ.out.2.2.2.1 hg7.size (fun b hb => hg7.block b (HQ.out.2.2.2.1.lt b hb) fun e => by have := HOlt.out b e.symm; have := HBm.out b hb; omega)
      have hB7 := HQ.out.2.2.2.2.grown hg7 (by have := HQ.out.2.2.2.2.size; omega) (fun q hq => by have := HOlt.out q hq; omega)
      rw [HC6.out] at hown7
      have hO8 := ownsRow_far hown7 (b := w2.heap.size) (i := 1) (by omega) (.slice A7 (k + 1) c7)
      have hI8 := hg.1.far (b := w2.heap.size) (k := 1) (u := .slice A7 (k + 1) c7) fun x hx => by have := HP.out.2.2.1 x hx; omega
      have hN8 := hg.2.of_blocks (w' := w7.setCell ⟨w2.heap.size, 1, none⟩ (.slice A7 (k + 1) c7)) fun x hx => Below.heap_setCell _ _ _ _ (by have := HP.out.2.2.1 x hx; show x ≠ w2.heap.size; omega)
      have hB8 := hB7.setCell (p := ⟨w2.heap.size, 1, none⟩) (by show w.heap.size ≤ w2.heap.size; omega) (.slice A7 (k + 1) c7)
      have q08 := q07.far (p := ⟨w2.heap.size, 1, none⟩) (by show w.heap.size ≠ w2.heap.size; omega) (.slice A7 (k + 1) c7)
      have q18 := q17.far (p := ⟨w2.heap.size, 1, none⟩) (by show w.heap.size + 1 ≠ w2.heap.size; omega) (.slice A7 (k + 1) c7)
      have q28 := q27.set_ 1 (.slice A7 (k + 1) c7)
      have hM8 := hM7.far (b := w2.heap.size) (i := 1) (u := .slice A7 (k + 1) c7) fun x hx => by have := HBm.out x hx; omega
      have hBT8 := (HP.out.2.2.2.of_blocks (w' := w7) fun b ds hd hb => hg7.block b (Bk.lt hd) fun e => (NT.ne (bs := [b]) (fun x hx => by simp at hx; subst hx; exact ⟨ds, 106, by decide, hd⟩) HO5.out e.symm b (by simp)) rfl).of_blocks (w' := w7.setCell ⟨w2.heap.size, 1, none⟩ (.slice A7 (k + 1) c7)) fun b ds hd hb => Below.heap_setCell _ _ _ _ (by show b ≠ w2.heap.size; omega)
      have HBT := Lib.hid hBT8
      have HE := Lib.hid (And.intro hO8 (And.intro hI8 (And.intro hN8 (And.intro hB8 (And.intro q08 (And.intro q18 (And.intro q28 hM8)))))))
      obtain ⟨s1, e1⟩ := q27.at_ 1 (x := .slice At k ct) rfl
      clear hBT8 hO8 hI8 hN8 hB8 q08 q18 q28 hM8 hM7 hB7 hown7 hg q07 q17 q27 hg7
      refine wpAnyX_one 26 rfl (by kernel_rfl) (by kernel_rfl) ?_
      go_wp2_with fail
      refine ⟨⟨fun h => absurd (show true = false from h) (by decide), fun _ => trivial⟩, ?_⟩
      refine wpAnyX_done (by kernel_rfl) ?_
      go_wp2_with fail
      exact ⟨⟨k + 1, A7, c7, _, _, by omega, by go_num, Lib.hid ⟨by simp [HL.out.1], by simp [HL.out.2]⟩, HE.out.1, HE.out.2.1, Lib.hid ⟨HE.out.2.2.1, HP.out.2.2.1, HBT.out⟩, HE.out.2.2.2.1, HE.out.2.2.2.2.1, HE.out.2.2.2.2.2.1, HE.out.2.2.2.2.2.2.1, HE.out.2.2.2.2.2.2.2⟩, by simp [intOf]; omega⟩
    · obtain rfl : k = M.ths.length := by omega
      rw [List.take_length] at hO hI HBS
      obtain ⟨x0, e0⟩ := q1.at_ 0 (x := .slice none 0 0) rfl
      have q1a := q1.set_ 0 (.slice A2 M.mem.length c2)
      obtain ⟨x1, e1⟩ := q1a.at_ 1 (x := .slice none 0 0) rfl
      have q1b := q1a.set_ 1 (.slice At M.ths.length ct)
      obtain ⟨r0, -⟩ := q1b.at_ 0 (x := .slice A2 M.mem.length c2) rfl
      obtain ⟨r1, -⟩ := q1b.at_ 1 (x := .slice At M.ths.length ct) rfl
      obtain ⟨m0, -⟩ := q2.at_ 0 (x := .slice A2 M.mem.length c2) rfl
      obtain ⟨m1, -⟩ := q2.at_ 1 (x := .slice At M.ths.length ct) rfl
      obtain ⟨b0, hr0, hl0⟩ := Own.of_owns hO
      have hne := ne_of_nt HBS.out.1 (owns_bk hO hr0)
      have hTT : OwnT wr (.slice At M.ths.length ct) M.ths vs qs b0 := ⟨HL.out.1, HL.out.2, OwnR.cons (r := ⟨_, 3, M.ths.length, _, b0⟩) hr0 hI hne⟩
      have hTl : ∀ b ∈ b0 ++ blks (thRows M.ths vs qs), w2.heap.size + 1 ≤ b := fun b hb => by
        rcases List.mem_append.1 hb with hb | hb
        · exact hl0 b hb
        · exact HBS.out.2.1 b hb
      have hbm' : ∀ b ∈ bm, w.heap.size + 2 ≤ b := fun b hb => by have := hbm b hb; simp at this; omega
      have hd : ∀ b ∈ bm, b ∉ b0 ++ blks (thRows M.ths vs qs) := fun b hb hm => by have := hbm2 b hb; have := hTl b hm; omega
      have hTf : ∀ (W : World) (i : Nat) (u : Value), OwnT W (.slice At M.ths.length ct) M.ths vs qs b0 → OwnT (W.setCell ⟨w.heap.size + 1, i, none⟩ u) (.slice At M.ths.length ct) M.ths vs qs b0 := fun W i u h =>
        ⟨h.lv, h.lq, h.own.far fun x hx => by rw [blks_cons] at hx; have := hTl x hx; omega⟩
      have hMf := hTf _ 1 (.slice At M.ths.length ct) (hTf _ 0 (.slice A2 M.mem.length c2) hTT)
      have hMm := (hM.far (b := w.heap.size + 1) (i := 0) (u := .slice A2 M.mem.length c2) (fun b hb => by have := hbm' b hb; omega)).far (b := w.heap.size + 1) (i := 1) (u := .slice At M.ths.length ct) (fun b hb => by have := hbm' b hb; omega)
      have hBT := (HBS.out.2.2.of_blocks (w' := wr.setCell ⟨w.heap.size + 1, 0, none⟩ (.slice A2 M.mem.length c2)) fun b ds hd hb => Below.heap_setCell _ _ _ _ (by show b ≠ w.heap.size + 1; omega)).of_blocks (w' := (wr.setCell ⟨w.heap.size + 1, 0, none⟩ (.slice A2 M.mem.length c2)).setCell ⟨w.heap.size + 1, 1, none⟩ (.slice At M.ths.length ct)) fun b ds hd hb => Below.heap_setCell _ _ _ _ (by show b ≠ w.heap.size + 1; omega)
      have hSep : ∀ (j : Nat) (t : Th) (p : Value × Value) (q : List Nat × List Nat), M.ths[j]? = some t → vs[j]? = some p → qs[j]? = some q → ∀ g, p.2.ownBlock = some g → g ∉ bm ++ b0 := by
        intro j t p q ht hp hq g hg hm
        obtain ⟨-, ⟨he, -⟩ | ⟨g', cap, cur, he, hbg, hgb, -⟩⟩ := (HBS.out.2.2 j t p q ht hp hq).1
        · rw [he] at hg
          cases hg
        · rw [he] at hg
          injection hg with hg
          have hg : g' = g := hg
          subst hg
          rcases List.mem_append.1 hm with hm | hm
          · have := hbm2 _ hm
            omega
          · obtain ⟨ds, hd⟩ := owns_bk hO hr0 _ hm
            unfold Bk at hd
            rw [hgb] at hd
            injection hd with hd
            injection hd with _ hd
            exact absurd hd (by decide)
      have hBT' : BufsT ((wr.setCell ⟨w.heap.size + 1, 0, none⟩ (.slice A2 M.mem.length c2)).setCell ⟨w.heap.size + 1, 1, none⟩ (.slice At M.ths.length ct)) (w.heap.size + 2) M.ths vs qs := fun j t p q ht hp hq => ⟨owns_lower (hBT j t p q ht hp hq).1 (by omega), (hBT j t p q ht hp hq).2⟩
      have HALL := Lib.hid (And.intro hMm (And.intro (And.intro hBT' hSep) (And.intro hd (And.intro hbm' fun b hb => by have := hTl b hb; omega))) : _ ∧ _ ∧ _ ∧ _ ∧ ∀ b ∈ b0 ++ blks (thRows M.ths vs qs), w.heap.size + 2 ≤ b)
      have HMf := Lib.hid hMf
      clear hMf hM hTT hI hO q2 hTl hne hr0 hMm hBT hBT' hd hTf hSep
      go_wp2_with fail
      exact bodyPost_ret (v := .agg #[.slice A2 M.mem.length c2, .slice At M.ths.length ct]) (by simp [results, Tryz.results36, go_sem, r0, r1]) rfl
        ⟨_, _, vs, qs, bm, b0, rfl, HALL.out.1, HMf.out, HALL.out.2.1, HALL.out.2.2.1, HALL.out.2.2.2.1, HALL.out.2.2.2.2, (hB.setCell (Nat.le_succ _) _).setCell (Nat.le_succ _) _⟩
theorem l04Copy (mv tv : Value) (M : Ma) (w : World) (h : RdMa w mv tv M) (hsz : totMa M ≤ 16777215) :
    Calls Tryz.prog 36 #[.agg #[mv, tv]] w (RetMa M w) := (l04CopyT mv tv M w h hsz).mono fun _ _ h => h.plain
end Go.Proofs.YtiflooopfpcelaaGreat
