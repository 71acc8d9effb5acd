/- Contract of spec.Start. Condition: the program can be read. -/
import Derived.Test.YtiflooopfpcelaaGreatC9
import Derived.Test.YtiflooopfpcelaaGreatMany2
import Derived.Test.YtiflooopfpcelaaGreatSteps
import Derived.Deep.OwnRows
namespace Go.Proofs.YtiflooopfpcelaaGreat
set_option maxRecDepth 20000
set_option linter.unusedSimpArgs false
set_option linter.unusedVariables false
open Go.ChangeShapes Go.WideShapes Go.ChangeAt Go.RowKit
theorem ownsRow_far {w : World} {base : Nat} {e : TypeId} {size n : Nat} {v : Value} {xs : List Value} (h : w.ownsRow base e size v n xs) {b i : Nat} (hb : b < base) (u : Value) : (w.setCell ⟨b, i, none⟩ u).ownsRow base e size v n xs := by
  obtain ⟨hl, ⟨rfl, rfl⟩ | ⟨g, cap, cur, rfl, h1, hg, h2⟩⟩ := h
  · exact ⟨hl, .inl ⟨rfl, rfl⟩⟩
  · exact ⟨hl, .inr ⟨g, cap, cur, rfl, h1, (Below.heap_setCell w ⟨b, i, none⟩ u g (by show g ≠ b; omega)).trans hg, h2⟩⟩
theorem run_make4 (W : World) : (Instr.makeSlice 25 (.int .i64 4) (.int .i64 4)).run Tryz.prog W = .ok (.slice (some ⟨W.heap.size, 0, none⟩) 4 4) (W.alloc (.cells #[.int .i64 0, .int .i64 0, .int .i64 0, .int .i64 0] 3)) := by
  have h := run_make_row' (P := Tryz.prog) 25 3 (.int .i64 0) 8 Tryz.underlying25 infoInt rfl .i64 .i64 4 (by omega) (by omega) W
  rw [show madeCells #[Value.int .i64 0] 4 = #[.int .i64 0, .int .i64 0, .int .i64 0, .int .i64 0] from Array.ext' (by rw [toList_madeCells_one]; rfl)] at h
  exact h
set_option maxHeartbeats 3200000 in
theorem spec_Start (v : Value) (p : Pr) (w : World) (h : RdSS w v p.x) :
    Calls Tryz.prog 59 #[.agg #[.int .i64 p.c, v]] w (RetMaB (startF p) (progOkF p) w) := by
  obtain ⟨vs, ⟨A, c, rfl, -, hnc, hc, hr⟩, hin⟩ := id h
  unfold maxLen at hc
  have hB0 := ((Below.refl w.heap.size w).alloc (Nat.le_refl _) (.cells #[.int .i64 p.c, .slice A p.x.length c] 43)).alloc (by simp) (.cells #[.slice none 0 0, .slice none 0 0] 38)
  have k0 := (Bk.new w #[.int .i64 p.c, .slice A p.x.length c] 43).alloc (.cells #[.slice none 0 0, .slice none 0 0] 38)
  have k1 := Bk.new (w.alloc (.cells #[.int .i64 p.c, .slice A p.x.length c] 43)) #[.slice none 0 0, .slice none 0 0] 38
  simp only [World.size_alloc] at k1
  have hC := spec_ProgOk _ p _ (h.below hB0)
  have HB0 := Lib.hid hB0
  clear hB0 hr hin
  cases hok : progOkF p
  · rw [hok] at hC
    have HC := Lib.hid hC
    have HF : Hid (startF p = ⟨[], []⟩) := Lib.hid (by simp [startF, hok])
    clear hC hok
    go_enter Tryz.func59, Tryz.ntmps59
    go_wp2_with fail
    refine HC.out.mono ?_
    rintro e w1 ⟨rfl, hb1⟩
    have K1 := k1.below hb1 k1.lt
    have K2 := K1.set_ 0 (.slice none 0 0)
    have K3 := K2.set_ 1 (.slice none 0 0)
    obtain ⟨y0, z0⟩ := K1.at_ 0 (x := .slice none 0 0) rfl
    obtain ⟨y1, z1⟩ := K2.at_ 1 (x := .slice none 0 0) rfl
    obtain ⟨r0, -⟩ := K3.at_ 0 (x := .slice none 0 0) rfl
    obtain ⟨r1, -⟩ := K3.at_ 1 (x := .slice none 0 0) rfl
    have HB1 := Lib.hid (HB0.out.trans (hb1.mono HB0.out.size))
    clear hb1
    go_wp2_with fail
    exact bodyPost_ret (v := .tuple #[.agg #[.slice none 0 0, .slice none 0 0], .bool false]) (by simp [results, Tryz.results59, go_sem, r0, r1]) rfl
      ⟨_, _, [], rfl, by rw [HF.out]; exact OwnMa.zero _, by simp, (HB1.out.setCell (Nat.le_succ _) _).setCell (Nat.le_succ _) _⟩
  rw [hok] at hC
  have HC := Lib.hid hC
  obtain ⟨hpl1, hpl2, hpl3, hpl4⟩ := progOk_len hok
  obtain ⟨hnf, hnl⟩ := newF_ok hok
  obtain ⟨n, hn⟩ : ∃ n : Nat, p.c = n := ⟨p.c.toNat, by omega⟩
  have hnf' : newF p.c = List.replicate n 0 := by rw [hnf, hn, Int.toNat_natCast]
  have HF : Hid (startF p = ⟨List.replicate n 0, List.replicate p.x.length z4⟩) := Lib.hid (by simp [startF, hok, hnf'])
  have hn16 : n ≤ 16 := by omega
  obtain ⟨i, hi, hz0, hz1, hz2⟩ := info_parts infoTh
  obtain ⟨j, hj, hj0, hj1, hj2⟩ := info_parts infoInt
  rw [hn] at k0 k1 HC HB0
  rw [hn]
  clear hC hok hnf hnl hnf' hn
  go_enter Tryz.func59, Tryz.ntmps59
  go_wp2_with fail
  refine HC.out.mono ?_
  rintro e w1 ⟨rfl, hb1⟩
  have hB1 := HB0.out.trans (hb1.mono HB0.out.size)
  have K0 := k0.below hb1 k0.lt
  have K1 := k1.below hb1 k1.lt
  obtain ⟨y0, -⟩ := K0.at_ 0 (x := .int .i64 n) rfl
  clear hb1 k0 k1 HB0 HC
  go_wp2_with (at_make; refine wpList_make_full _ rfl _ _ 25 rfl w1.heap.size 3 j (.int .i64 0) 1 Tryz.underlying25 hj hj0 hj1 _ _ _ _ n rfl rfl rfl rfl (by rw [hj2]; omega) (by unfold maxLen; omega) (Nat.le_refl _) ?_)
  intro w2 hown hg2
  rw [toList_madeCells_one] at hown
  have hW := (Below.refl w1.heap.size w1).grown hg2 (Nat.le_refl _) (by simp)
  have hB2 := hB1.trans (hW.mono hB1.size)
  have Q0 := K0.below hW K0.lt
  have Q1 := K1.below hW K1.lt
  have hlg : w1.heap.size < w2.heap.size := (hown.lt _ rfl).2
  obtain ⟨bm, hM0, hbm⟩ := Own.of_owns hown
  have hM : Own w2 (.slice (some ⟨w1.heap.size, 0, none⟩) n n) 1 (List.replicate n (0 : Int)).length (ints (List.replicate n 0)) bm := by
    rw [List.length_replicate, show ints (List.replicate n 0) = List.replicate n (.int .i64 0) by simp [ints]]
    exact hM0
  have hbm2 := hM0.lt
  have lq1 := K1.lt
  clear hM0 hown hg2 y0 K0 K1
  -- the machine's box
  have hal := (Below.refl w2.heap.size w2).alloc (Nat.le_refl _) (.cells #[.slice (some ⟨w1.heap.size, 0, none⟩) n n, .slice none 0 0] 38)
  have R0 := Q0.alloc (.cells #[.slice (some ⟨w1.heap.size, 0, none⟩) n n, .slice none 0 0] 38)
  have R1 := Q1.alloc (.cells #[.slice (some ⟨w1.heap.size, 0, none⟩) n n, .slice none 0 0] 38)
  have R2 := Bk.new w2 #[.slice (some ⟨w1.heap.size, 0, none⟩) n n, .slice none 0 0] 38
  have hM1 := hM.below hal
  have hB3 := hB2.alloc hB2.size (.cells #[.slice (some ⟨w1.heap.size, 0, none⟩) n n, .slice none 0 0] 38)
  clear hM hal hB2 Q0 Q1 hW hB1
  go_wp2_with fail
  go_loopw [5] (fun l wr => ∃ (k : Nat) (At : Option Addr) (ct : Nat) (vs : List (Value × Value)) (qs : List (List Nat × List Nat)), k ≤ p.x.length ∧ l = .int .i64 k ∧ Hid (vs.length = k ∧ qs.length = k) ∧
    wr.ownsRow (w2.heap.size + 1) 73 3 (.slice At k ct) k (thCs (List.replicate k z4) vs) ∧ OwnR wr (thRows (List.replicate k z4) vs qs) ∧ Hid (NT 73 wr (blks (thRows (List.replicate k z4) vs qs)) ∧ ∀ b ∈ blks (thRows (List.replicate k z4) vs qs), w2.heap.size + 1 ≤ b) ∧
    Below w.heap.size w wr ∧ Bk wr w.heap.size #[.int .i64 n, .slice A p.x.length c] 43 ∧ Bk wr (w.heap.size + 1) #[.slice none 0 0, .slice none 0 0] 38 ∧
    Bk wr w2.heap.size #[.slice (some ⟨w1.heap.size, 0, none⟩) n n, .slice At k ct] 38 ∧ Own wr (.slice (some ⟨w1.heap.size, 0, none⟩) n n) 1 (List.replicate n (0 : Int)).length (ints (List.replicate n 0)) bm) (fun l _ => p.x.length - (intOf l).toNat)
  case atStart => exact ⟨0, none, 0, [], [], Nat.zero_le _, rfl, Lib.hid ⟨rfl, rfl⟩, World.ownsRow_nil _ _ _ _, OwnR.nil _, Lib.hid ⟨by simp [thRows, blks, NT], by simp [thRows, blks]⟩, hB3, R0, R1, R2, hM1⟩
  case round =>
    obtain ⟨k, At, ct, vs, qs, hk, rfl, HL, hO, hI, HBS, hB, q0, q1, q2, hM⟩ := hrel
    clear hB3 R0 R1 R2 hM1
    obtain ⟨y1, -⟩ := q0.at_ 1 (x := .slice A p.x.length c) rfl
    obtain ⟨y2, f2⟩ := q2.at_ 1 (x := .slice At k ct) rfl
    by_cases hlt : k < p.x.length
    · have l2 := q2.lt
      have hmk := run_make4
      -- the world ahead of the append
      have hWa := (((Below.refl wr.heap.size wr).alloc (Nat.le_refl _) (.cells #[.int .i64 0, .int .i64 0, .int .i64 0, .int .i64 0] 3)).alloc (by simp) (.cells #[.int .i64 0, .slice (some ⟨wr.heap.size, 0, none⟩) 4 4, .slice none 0 0] 73)).drew
      have kv := ((Bk.new wr #[.int .i64 0, .int .i64 0, .int .i64 0, .int .i64 0] 3).alloc (.cells #[.int .i64 0, .slice (some ⟨wr.heap.size, 0, none⟩) 4 4, .slice none 0 0] 73))
      have kn := Bk.new (wr.alloc (.cells #[.int .i64 0, .int .i64 0, .int .i64 0, .int .i64 0] 3)) #[.int .i64 0, .slice (some ⟨wr.heap.size, 0, none⟩) 4 4, .slice none 0 0] 73
      simp only [World.size_alloc] at kn
      have hv0 := World.ownsRow_lit (base := wr.heap.size) (e := 3) (size := 1) wr #[.int .i64 0, .int .i64 0, .int .i64 0, .int .i64 0] 4 (Nat.le_refl _) (by simp [maxLen]) rfl
      obtain ⟨b5, hv5, hl5⟩ := Own.of_owns hv0
      have hv5' : Own (wr.alloc (.cells #[.int .i64 0, .int .i64 0, .int .i64 0, .int .i64 0] 3)) (.slice (some ⟨wr.heap.size, 0, none⟩) 4 4) 1 z4.v.length (ints z4.v) b5 := hv5
      have hv6 := hv5'.below (((Below.refl (wr.alloc (.cells #[.int .i64 0, .int .i64 0, .int .i64 0, .int .i64 0] 3)).heap.size (wr.alloc (.cells #[.int .i64 0, .int .i64 0, .int .i64 0, .int .i64 0] 3))).alloc (Nat.le_refl _) (.cells #[.int .i64 0, .slice (some ⟨wr.heap.size, 0, none⟩) 4 4, .slice none 0 0] 73)).drew)
      have hb5 := hv6.blk
      obtain ⟨W5, hW5⟩ : ∃ W5, W5 = ((wr.alloc (.cells #[.int .i64 0, .int .i64 0, .int .i64 0, .int .i64 0] 3)).alloc (.cells #[.int .i64 0, .slice (some ⟨wr.heap.size, 0, none⟩) 4 4, .slice none 0 0] 73)).drew := ⟨_, rfl⟩
      have kv5 : Bk W5 wr.heap.size #[.int .i64 0, .int .i64 0, .int .i64 0, .int .i64 0] 3 := by rw [hW5]; exact kv
      have kn5 : Bk W5 (wr.heap.size + 1) #[.int .i64 0, .slice (some ⟨wr.heap.size, 0, none⟩) 4 4, .slice none 0 0] 73 := by rw [hW5]; exact kn
      rw [← hW5] at hWa hv6
      have hO5 := ownsRow_below hO hWa
      have hI5 := hI.below hWa
      have hN5 := HBS.out.1.below hI.lt hWa
      have hilt := hI.lt
      have hv' : vs.length = (List.replicate k z4).length := by rw [List.length_replicate, HL.out.1]
      have hq' : qs.length = (List.replicate k z4).length := by rw [List.length_replicate, HL.out.2]
      have hI6 := rows_snoc (t := z4) (bb := []) hv' hq' hI5 hv6 (Own.nil W5 2) (by simp) (fun x hx hm => by have := hb5 x hx; have := hilt x hm; omega) (by simp)
      have hBS6 := blks_snoc (t := z4) (a := .slice (some ⟨wr.heap.size, 0, none⟩) 4 4) (b := .slice none 0 0) (ba := b5) (bb := []) hv' hq' HBS.out.2 (fun x hx => by have := hb5 x hx; show w2.heap.size + 1 ≤ x; omega) (by simp)
      have hN6 : NT 73 W5 (blks (thRows (List.replicate k z4 ++ [z4]) (vs ++ [(.slice (some ⟨wr.heap.size, 0, none⟩) 4 4, .slice none 0 0)]) (qs ++ [(b5, [])]))) := by
        rw [thRows_append hv' hq', blks_append]
        refine hN5.app fun b hb => ?_
        have : b ∈ b5 := by simpa [thRows, blks, vRow, fRow] using hb
        rw [hb5 b this]
        exact ⟨_, 3, by decide, kv5⟩
      rw [show List.replicate k z4 ++ [z4] = List.replicate (k + 1) z4 from by rw [List.replicate_succ'] ] at hI6 hBS6 hN6
      have hc6 : thCs (List.replicate k z4) vs ++ [.int .i64 0, .slice (some ⟨wr.heap.size, 0, none⟩) 4 4, .slice none 0 0] = thCs (List.replicate (k + 1) z4) (vs ++ [(.slice (some ⟨wr.heap.size, 0, none⟩) 4 4, .slice none 0 0)]) := by
        rw [List.replicate_succ', thCs_append hv']
        rfl
      have q05 := q0.below hWa q0.lt
      have q15 := q1.below hWa q1.lt
      have q25 := q2.below hWa l2
      have hM5 := hM.below hWa
      have hB5 := hB.trans (hWa.mono hB.size)
      have hOlt := fun q hq => (hO5.lt q hq).1
      have hz5 := hWa.size
      have HP : Hid (OwnR W5 (thRows (List.replicate (k + 1) z4) (vs ++ [(.slice (some ⟨wr.heap.size, 0, none⟩) 4 4, .slice none 0 0)]) (qs ++ [(b5, [])])) ∧
        NT 73 W5 (blks (thRows (List.replicate (k + 1) z4) (vs ++ [(.slice (some ⟨wr.heap.size, 0, none⟩) 4 4, .slice none 0 0)]) (qs ++ [(b5, [])]))) ∧
        (∀ b ∈ blks (thRows (List.replicate (k + 1) z4) (vs ++ [(.slice (some ⟨wr.heap.size, 0, none⟩) 4 4, .slice none 0 0)]) (qs ++ [(b5, [])])), w2.heap.size + 1 ≤ b)) := Lib.hid ⟨hI6, hN6, hBS6⟩
      have HC6 := Lib.hid hc6
      have HQ := Lib.hid (And.intro q05 (And.intro q15 (And.intro q25 (And.intro hM5 hB5))))
      have hkn : ∀ j u, ([.int .i64 0, .slice (some ⟨wr.heap.size, 0, none⟩) 4 4, .slice none 0 0] : List Value)[j]? = some u → W5.cell? ((⟨wr.heap.size + 1, 0, none⟩ : Addr).add j) = some u := fun j u hu => by
        have e : (⟨wr.heap.size + 1, 0, none⟩ : Addr).add j = ⟨wr.heap.size + 1, j, none⟩ := by unfold Addr.add; split <;> simp_all
        rw [e]
        exact (kn5.at_ j (by simpa using hu)).1
      have HKN := Lib.hid hkn
      have HO5 := Lib.hid hO5
      have HOlt := Lib.hid hOlt
      have HW5 := Lib.hid hW5
      have HBm := Lib.hid hbm2
      clear hW5 hWa kv kn kv5 kn5 hv0 hv5 hv5' hv6 hO hI hN5 hI5 hilt hv' hq' hI6 hBS6 hN6 hc6 q05 q15 q25 hM5 hB5 hOlt hO5 hkn q0 q1 q2 hM hB hl5 hb5
      go_wp2_with fail
      go_region_law (refine step_own _ rfl (.tmp 23) (.tmp 26) 36 rfl (w2.heap.size + 1) 73 i (.agg #[.int .i64 0, .slice none 0 0, .slice none 0 0]) 3 56 Tryz.underlying36 hi hz0 hz1 hz2 rfl (by decide) _ k (thCs (List.replicate k z4) vs) rfl (HW5.out ▸ HO5.out) ⟨wr.heap.size + 1, 0, none⟩ 1 1 [.int .i64 0, .slice (some ⟨wr.heap.size, 0, none⟩) 4 4, .slice none 0 0] rfl rfl (HW5.out ▸ HKN.out) (by simp [Value.oneCell']) (by unfold maxLen; omega) (by omega) (by simp; omega) ?_; intro v7 w7 hown7 hg7; rw [← HW5.out] at hg7; obtain ⟨A7, c7, rfl⟩ := owns_form hown7; have q27 := Bk.grown HQ.out.2.2.1 hg7 (fun q hq => by have := HOlt.out q hq; omega); obtain ⟨x7, f7⟩ := q27.at_ 1 rfl)
      all_goals
        have q07 := Bk.grown HQ.out.1 hg7 (fun q hq => by have := HOlt.out q hq; omega)
        have q17 := Bk.grown HQ.out.2.1 hg7 (fun q hq => by have := HOlt.out q hq; omega)
        have hg := grow_rows HO5.out HP.out.1 HP.out.2.1 hg7
        have hM7 := Own.of_blocks HQ.out.2.2.2.1 hg7.size (fun b hb => hg7.block b (HQ.out.2.2.2.1.lt b hb) fun e => by have := HOlt.out b e.symm; have := HBm.out b hb; omega)
        have hB7 := HQ.out.2.2.2.2.grown hg7 (by have := HQ.out.2.2.2.2.size; omega) (fun q hq => by have := HOlt.out q hq; omega)
        rw [HC6.out] at hown7
        have hO8 := ownsRow_far hown7 (b := w2.heap.size) (i := 1) (by omega) (.slice A7 (k + 1) c7)
        have hI8 := hg.1.far (b := w2.heap.size) (k := 1) (u := .slice A7 (k + 1) c7) fun x hx => by have := HP.out.2.2 x hx; omega
        have hN8 := hg.2.of_blocks (w' := w7.setCell ⟨w2.heap.size, 1, none⟩ (.slice A7 (k + 1) c7)) fun x hx => Below.heap_setCell _ _ _ _ (by have := HP.out.2.2 x hx; show x ≠ w2.heap.size; omega)
        have hB8 := hB7.setCell (p := ⟨w2.heap.size, 1, none⟩) (by show w.heap.size ≤ w2.heap.size; omega) (.slice A7 (k + 1) c7)
        have q08 := q07.far (p := ⟨w2.heap.size, 1, none⟩) (by show w.heap.size ≠ w2.heap.size; omega) (.slice A7 (k + 1) c7)
        have q18 := q17.far (p := ⟨w2.heap.size, 1, none⟩) (by show w.heap.size + 1 ≠ w2.heap.size; omega) (.slice A7 (k + 1) c7)
        have q28 := q27.set_ 1 (.slice A7 (k + 1) c7)
        have hM8 := hM7.far (b := w2.heap.size) (i := 1) (u := .slice A7 (k + 1) c7) fun x hx => by have := HBm.out x hx; omega
        have HE := Lib.hid (And.intro hO8 (And.intro hI8 (And.intro hN8 (And.intro hB8 (And.intro q08 (And.intro q18 (And.intro q28 hM8)))))))
        clear hO8 hI8 hN8 hB8 q08 q18 q28 hM8 hM7 hB7 hown7 hg q07 q17 q27 hg7
        go_wp2_with fail
        exact ⟨⟨k + 1, A7, c7, _, _, by omega, by go_num, Lib.hid ⟨by simp [HL.out.1], by simp [HL.out.2]⟩, HE.out.1, HE.out.2.1, Lib.hid ⟨HE.out.2.2.1, HP.out.2.2⟩, HE.out.2.2.2.1, HE.out.2.2.2.2.1, HE.out.2.2.2.2.2.1, HE.out.2.2.2.2.2.2.1, HE.out.2.2.2.2.2.2.2⟩, by simp [intOf]; omega⟩
    · obtain rfl : k = p.x.length := by omega
      obtain ⟨x0, e0⟩ := q1.at_ 0 (x := .slice none 0 0) rfl
      have q1a := q1.set_ 0 (.slice (some ⟨w1.heap.size, 0, none⟩) n n)
      obtain ⟨x1, e1⟩ := q1a.at_ 1 (x := .slice none 0 0) rfl
      have q1b := q1a.set_ 1 (.slice At p.x.length ct)
      obtain ⟨r0, -⟩ := q1b.at_ 0 (x := .slice (some ⟨w1.heap.size, 0, none⟩) n n) rfl
      obtain ⟨r1, -⟩ := q1b.at_ 1 (x := .slice At p.x.length ct) rfl
      obtain ⟨m0, -⟩ := q2.at_ 0 (x := .slice (some ⟨w1.heap.size, 0, none⟩) n n) rfl
      obtain ⟨b0, hr0, hl0⟩ := Own.of_owns hO
      have hne := ne_of_nt HBS.out.1 (owns_bk hO hr0)
      have hrl : (List.replicate p.x.length z4).length = p.x.length := List.length_replicate
      have hT : OwnTS wr (.slice At p.x.length ct) (List.replicate p.x.length z4) (b0 ++ blks (thRows (List.replicate p.x.length z4) vs qs)) :=
        ⟨vs, qs, b0, by rw [hrl, HL.out.1], by rw [hrl, HL.out.2], OwnR.cons (r := ⟨_, 3, (List.replicate p.x.length z4).length, _, b0⟩) (by rw [hrl]; exact hr0) hI hne, by rw [blks_cons]⟩
      have hTl : ∀ b ∈ b0 ++ blks (thRows (List.replicate p.x.length z4) vs qs), w2.heap.size + 1 ≤ b := fun b hb => by
        rcases List.mem_append.1 hb with hb | hb
        · exact hl0 b hb
        · exact HBS.out.2 b hb
      have hMa := OwnMa.mk (M := ⟨List.replicate n 0, List.replicate p.x.length z4⟩) hM hT (fun b hb hm => by have := hbm2 b hb; have := hTl b hm; omega)
      have hall : ∀ b ∈ bm ++ (b0 ++ blks (thRows (List.replicate p.x.length z4) vs qs)), w1.heap.size ≤ b := fun b hb => by
        rcases List.mem_append.1 hb with hb | hb
        · exact hbm b hb
        · have := hTl b hb
          omega
      have hMf := (hMa.far (b := w.heap.size + 1) (k := 0) (u := .slice (some ⟨w1.heap.size, 0, none⟩) n n) (fun b hb => by have := hall b hb; omega)).far (b := w.heap.size + 1) (k := 1) (u := .slice At p.x.length ct) (fun b hb => by have := hall b hb; omega)
      have HMf := Lib.hid hMf
      have HALL := Lib.hid hall
      clear hMa hMf hM hT hI hO q2 hall hTl hne hr0
      go_wp2_with fail
      exact bodyPost_ret (v := .tuple #[.agg #[.slice (some ⟨w1.heap.size, 0, none⟩) n n, .slice At p.x.length ct], .bool true]) (by simp [results, Tryz.results59, go_sem, r0, r1]) rfl
        ⟨_, _, _, rfl, by rw [HF.out]; exact HMf.out, fun b hb => by have := HALL.out b hb; omega, (hB.setCell (Nat.le_succ _) _).setCell (Nat.le_succ _) _⟩
end Go.Proofs.YtiflooopfpcelaaGreat
