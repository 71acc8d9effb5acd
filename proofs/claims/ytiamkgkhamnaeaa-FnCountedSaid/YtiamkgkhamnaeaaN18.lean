/- Contracts of slices.Delete of one hold and of DropHold (packages spec and impl). Conditions: the bench's rows can be read (impl: and hold numbers of 64 bits); lengths that a law bounds. -/
import Derived.Test.YtiamkgkhamnaeaaN17
namespace Go.Proofs.Ytiamkgkhamnaeaa
set_option maxRecDepth 20000
set_option linter.unusedSimpArgs false
set_option linter.unusedVariables false
open Go.ChangeShapes Go.WideShapes Go.ChangeAt Go.RowKit
set_option linter.unusedVariables false
theorem flc2_take (xs : List P2) (k : Nat) : (flc2 xs).take (k * 2) = flc2 (xs.take k) := by
  by_cases h : k ≤ xs.length
  · have e : flc2 xs = flc2 (xs.take k) ++ flc2 (xs.drop k) := by rw [← flc2_append, List.take_append_drop]
    rw [e, List.take_append_of_le_length (by rw [flc2_len, List.length_take]; omega), List.take_of_length_le (by rw [flc2_len, List.length_take]; omega)]
  · rw [List.take_of_length_le (by rw [flc2_len]; omega), List.take_of_length_le (by omega)]
theorem flc2_drop (xs : List P2) (k : Nat) : (flc2 xs).drop (k * 2) = flc2 (xs.drop k) := by
  by_cases h : k ≤ xs.length
  · have e : flc2 xs = flc2 (xs.take k) ++ flc2 (xs.drop k) := by rw [← flc2_append, List.take_append_drop]
    rw [e, List.drop_append_of_le_length (by rw [flc2_len, List.length_take]; omega), List.drop_of_length_le (by rw [flc2_len, List.length_take]; omega), List.nil_append]
  · rw [List.drop_of_length_le (by rw [flc2_len]; omega), List.drop_of_length_le (by omega)]
    rfl
set_option maxHeartbeats 1600000 in
theorem deleteHT (g cap k : Nat) (xs : List P2) (lo : Nat) (w : World) (hO : w.ownsRow lo 92 2 (.slice (some ⟨g, 0, none⟩) xs.length cap) xs.length (flc2 xs)) (hk : k < xs.length) (hcn : xs.length ≤ cap) (hcm : cap ≤ 9223372036854775807) :
    Calls Try.prog 83 #[.slice (some ⟨g, 0, none⟩) xs.length cap, .int .i64 k, .int .i64 (k + 1)] w fun e w' => e = .returned (.slice (some ⟨g, 0, none⟩) (xs.length - 1) cap) ∧
      w'.ownsRow lo 92 2 (.slice (some ⟨g, 0, none⟩) (xs.length - 1) cap) (xs.length - 1) (flc2 (xs.eraseIdx k)) ∧ Only [g] w w' := by
  obtain ⟨i, hi, hiz0, hiz1, hiz2⟩ := info_parts infoHold
  have hc1 : cap ≠ xs.length - 1 := by omega
  have hk1 : ((k : Int) == k + 1) = false := by simp; omega
  obtain ⟨w0, hw0⟩ : ∃ w0, w0 = w.drew := ⟨_, rfl⟩
  have hO0 : w0.ownsRow lo 92 2 (.slice (some ⟨g, 0, none⟩) xs.length cap) xs.length (flc2 xs) := by rw [hw0]; exact hO.drew
  have ho0 : Only [g] w w0 := by rw [hw0]; exact Only.of_below (Below.refl _ _).drew _
  have hpre := owns_prefix hO0 (Nat.le_of_lt hk)
  obtain ⟨A, hA, hsrc⟩ : ∃ A : Addr, (if cap = k + 1 then some (⟨g, 0, none⟩ : Addr) else some ⟨g, (k + 1) * 2, none⟩) = some A ∧ (∀ j u, (flc2 (xs.drop (k + 1)))[j]? = some u → w0.cell? (A.add j) = some u) := by
    by_cases h : cap = k + 1
    · refine ⟨_, if_pos h, fun j u hu => ?_⟩
      have := (List.getElem?_eq_some_iff.1 hu).1
      rw [flc2_len] at this
      simp at this
      omega
    · refine ⟨_, if_neg h, fun j u hu => ?_⟩
      have hj := (List.getElem?_eq_some_iff.1 hu).1
      rw [flc2_len] at hj
      simp at hj
      have hu' : (flc2 xs)[(k + 1) * 2 + j]? = some u := by rw [← hu, ← flc2_drop, List.getElem?_drop]
      have hcell := (hO0.cellAt ((k + 1) * 2 + j) (by omega)).trans hu'
      unfold Addr.add
      split
      · rename_i h0
        subst h0
        exact hcell
      · exact hcell
  obtain ⟨w6, hr, hO6, hg6⟩ := run_append_fits (P := Try.prog) w0 lo 29 0 92 i 2 Try.underlying29 hi hiz1 g k cap _ hpre A (xs.length - (k + 1)) (cap - (k + 1)) (flc2 (xs.drop (k + 1))) (by rw [flc2_len]; simp) hsrc (fun u hu => by obtain ⟨x, -, rfl⟩ := List.mem_map.1 hu; rfl) (by omega)
  have hap : ∀ ty, (Builtin.append_ #[29, 29] ty #[.slice (some ⟨g, 0, none⟩) k cap, .slice (some A) (xs.length - (k + 1)) (cap - (k + 1))]).run Try.prog w0 = .ok (.slice (some ⟨g, 0, none⟩) (xs.length - 1) cap) w6 := fun ty => by
    have h := hr
    rw [show k + (xs.length - (k + 1)) = xs.length - 1 by omega] at h
    exact h
  have hE : flc2 (xs.take k) ++ flc2 (xs.drop (k + 1)) = flc2 (xs.eraseIdx k) := by rw [← flc2_append, List.eraseIdx_eq_take_drop_succ]
  rw [show k + (xs.length - (k + 1)) = xs.length - 1 by omega, show (flc2 xs).take (k * 2) = flc2 (xs.take k) from flc2_take xs k, hE] at hO6
  obtain ⟨hsc, hsf⟩ := owns_spare (j := (xs.length - 1) * 2) hO6 (by omega)
  obtain ⟨hsc1, hsf1⟩ := owns_spare (j := (xs.length - 1) * 2 + 1) hO6 (by omega)
  have hcl : ∀ ty c, (Builtin.clear_ #[29] ty #[.slice (some ⟨g, (xs.length - 1) * 2, none⟩) (xs.length - (xs.length - 1)) c]).run Try.prog w6 = .ok (.tuple #[]) ((w6.setCell ⟨g, (xs.length - 1) * 2, none⟩ (.int .i64 0)).setCell ⟨g, (xs.length - 1) * 2 + 1, none⟩ (.int .i64 0)) := fun ty c => by
    rw [show xs.length - (xs.length - 1) = 1 by omega]
    have hv : ∀ w, (zeroValue 92).run Try.prog w = .ok (.agg #[.int .i64 0, .int .i64 0]) w := fun _ => by kernel_rfl
    have hzc : (Builtin.zeroCells (Value.agg #[.int .i64 0, .int .i64 0]).cells 1).toList = [.int .i64 0, .int .i64 0] := by kernel_rfl
    have hst := run_storeCells_cells (P := Try.prog) g ((xs.length - 1) * 2) [.int .i64 0, .int .i64 0] 0 w6 (by
      intro j hj
      simp at hj
      rcases (show j = 0 ∨ j = 1 by omega) with rfl | rfl
      · simpa using hsc
      · simpa using hsc1) (by
      intro j hj
      simp at hj
      rcases (show j = 0 ∨ j = 1 by omega) with rfl | rfl
      · simpa using hsf
      · simpa using hsf1) (by simp [Value.oneCell'])
    simp only [Nat.add_zero] at hst
    simp [Builtin.clear_, run_underlying (Try.underlying29), hv, hzc, hst, World.setCells]
  have HFIN := Lib.hid (And.intro (owns_beyond (owns_beyond hO6 (j := (xs.length - 1) * 2) (by omega) (.int .i64 0)) (j := (xs.length - 1) * 2 + 1) (by omega) (.int .i64 0)) (((ho0.trans ⟨hg6.os, hg6.tape, hg6.output, hg6.size, fun b hb hn => hg6.block b hb (by intro e; injection e with e; exact hn (by simp [e]))⟩).trans (Only.setCell w6 (b := g) (i := (xs.length - 1) * 2) (.int .i64 0))).trans (Only.setCell _ (b := g) (i := (xs.length - 1) * 2 + 1) (.int .i64 0))))
  have hkn : k + 1 ≤ xs.length := hk
  clear hO hO0 hpre hsrc hr hO6 hg6 hE hsc hsf hsc1 hsf1 ho0
  go_enter Try.func83, Try.ntmps83
  go_wp2_with fail
  refine wp_region_two 6 6 (fun _ => True) (fun _ => True) (by kernel_rfl) ?_
  rw [← hw0]
  refine wpAnyX_pass (C := (fun _ => True)) none [true, true, true, true, true, true] rfl (by kernel_rfl) (fun _ _ t _ _ h => by cases t <;> exact h) ⟨fun _ => trivial, fun _ => trivial⟩ ?_
  simp only [keepOps]
  repeat (go_big_quiet_step (fail))
  refine wpQuiet_nil ?_
  refine wpAnyX_one 6 rfl (by kernel_rfl) (by kernel_rfl) ?_
  refine Lib.wpList_append_run _ rfl _ _ _ _ rfl _ _ rfl rfl _ _ (hap _) ?_
  clear hap hA
  go_wp2_with fail
  refine ⟨⟨fun _ => trivial, fun _ => trivial⟩, ?_⟩
  refine wpAnyX_one 7 rfl (by kernel_rfl) (by kernel_rfl) ?_
  go_wp2_with fail
  refine ⟨⟨fun _ => trivial, fun _ => trivial⟩, ?_⟩
  refine wpAnyX_done (by kernel_rfl) ?_
  try dsimp only
  have hc2 : ((xs.length - 1 : Nat) : Int) = (xs.length : Int) - 1 := by omega
  go_wp2_with fail
  go_ret
  exact ⟨rfl, HFIN.out⟩
theorem dropOk_no {B : Bn} {t x : Int} (h : dropOk B t x = false) : dropBn B t x = B ∧ dropOk B t x = false := by simp [dropBn, h]
theorem dropOk_yes {B : Bn} {t x : Int} (h : dropOk B t x = true) : dropBn B t x = { B with h := B.h.filter fun e => !decide (e = ⟨t, x⟩) } ∧ dropOk B t x = true := by simp [dropBn, h]
theorem filter_ne_eraseH : ∀ {l : List P2} {k : Nat} {x : P2}, l.Nodup → l[k]? = some x → (l.filter fun y => !decide (y = x)) = l.eraseIdx k
  | [], k, x, _, h => by simp at h
  | a :: l, 0, x, hn, h => by
    simp at h
    subst h
    have h1 := (List.nodup_cons.1 hn).1
    rw [List.filter_cons_of_neg (by simp), List.eraseIdx_cons_zero]
    exact List.filter_eq_self.2 fun y hy => by
      have : y ≠ a := fun e => h1 (e ▸ hy)
      simp [this]
  | a :: l, k + 1, x, hn, h => by
    obtain ⟨h1, h2⟩ := List.nodup_cons.1 hn
    have h' : l[k]? = some x := by simpa using h
    have hax : a ≠ x := fun e => h1 (e ▸ List.mem_of_getElem? h')
    rw [List.filter_cons_of_pos (by simp [hax]), List.eraseIdx_cons_succ, filter_ne_eraseH h2 h']
set_option maxHeartbeats 3200000 in
theorem impl_DropHold (a b c d : Value) (B : Bn) (t x : Int) (w : World) (r : RdBn w a b c d B) (hw : BnR B) (hsz : szBn B ≤ 16777215) :
    Calls Try.prog 42 #[.agg #[a, b, c, d, .int .i64 B.n], .int .i64 t, .int .i64 x] w (RetBnV (dropBn B t x) (.bool (dropOk B t x)) w) := by
  obtain ⟨A1, c1, A2, c2, A3, c3, A4, c4, ⟨rfl, rfl, rfl, rfl⟩, -, -⟩ := r.slices
  have hll : (B.l.length ≤ 16777215 ∧ B.h.length ≤ 16777215) ∧ B.w.length ≤ 16777215 ∧ B.f.length ≤ 16777215 := by unfold szBn at hsz; omega
  obtain ⟨W0, hW0⟩ : ∃ W0, W0 = (w.alloc (.cells #[.slice A1 B.l.length c1, .slice A2 B.h.length c2, .slice A3 B.w.length c3, .slice A4 B.f.length c4, .int .i64 B.n] 31)).alloc (.cells #[.slice none 0 0, .slice none 0 0, .slice none 0 0, .slice none 0 0, .int .i64 0] 31) := ⟨_, rfl⟩
  have hB0 := ((Below.refl w.heap.size w).alloc (Nat.le_refl _) (.cells #[.slice A1 B.l.length c1, .slice A2 B.h.length c2, .slice A3 B.w.length c3, .slice A4 B.f.length c4, .int .i64 B.n] 31)).alloc (by simp) (.cells #[.slice none 0 0, .slice none 0 0, .slice none 0 0, .slice none 0 0, .int .i64 0] 31)
  have k0 := (Bk.new w #[.slice A1 B.l.length c1, .slice A2 B.h.length c2, .slice A3 B.w.length c3, .slice A4 B.f.length c4, .int .i64 B.n] 31).alloc (.cells #[.slice none 0 0, .slice none 0 0, .slice none 0 0, .slice none 0 0, .int .i64 0] 31)
  have r0 := Bk.new (w.alloc (.cells #[.slice A1 B.l.length c1, .slice A2 B.h.length c2, .slice A3 B.w.length c3, .slice A4 B.f.length c4, .int .i64 B.n] 31)) #[.slice none 0 0, .slice none 0 0, .slice none 0 0, .slice none 0 0, .int .i64 0] 31
  simp only [World.size_alloc] at r0
  have hs0 : W0.heap.size = w.heap.size + 2 := by rw [hW0]; simp
  rw [← hW0] at hB0 k0 r0
  have HBO : Hid (∀ W : World, Below w.heap.size w W → Calls Try.prog 58 #[.agg #[.slice A1 B.l.length c1, .slice A2 B.h.length c2, .slice A3 B.w.length c3, .slice A4 B.f.length c4, .int .i64 B.n]] W fun e w' => e = .returned (.bool (bnOk B)) ∧ Below W.heap.size W w') := Lib.hid (fun W hW => impl_BenchOk _ _ _ _ B W (r.below hW) hw (by omega))
  have HC := Lib.hid (copyBenchT _ _ _ _ B W0 (r.below hB0) (by omega))
  have HRW := Lib.hid r
  have HSZ := Lib.hid hsz
  have HW0 := Lib.hid hW0
  have hz0 : w.heap.size + 2 ≤ W0.heap.size := by omega
  have HB0 := Lib.hid hB0
  obtain ⟨y0, -⟩ := k0.at_ 0 (x := .slice A1 B.l.length c1) rfl
  clear hW0 hs0 hB0 r hsz
  go_enter Try.func42, Try.ntmps42
  go_wp2_with fail
  rw [← HW0.out]
  clear y0
  refine HC.out.mono ?_
  rintro e w1 ⟨u1, u2, u3, u4, rfl, hO, hb1⟩
  obtain ⟨D1, d1, rfl⟩ := owns_form' hO.l
  obtain ⟨D2, d2, rfl⟩ := owns_form' hO.h
  obtain ⟨D3, d3, rfl⟩ := owns_form' hO.q
  obtain ⟨D4, d4, rfl⟩ := owns_form' hO.f
  have hz1 := hb1.size
  have k1 := (k0.below hb1 k0.lt).alloc (.cells #[.slice D1 B.l.length d1, .slice D2 B.h.length d2, .slice D3 B.w.length d3, .slice D4 B.f.length d4, .int .i64 B.n] 31)
  have r1 := (r0.below hb1 r0.lt).alloc (.cells #[.slice D1 B.l.length d1, .slice D2 B.h.length d2, .slice D3 B.w.length d3, .slice D4 B.f.length d4, .int .i64 B.n] 31)
  have q1 := Bk.new w1 #[.slice D1 B.l.length d1, .slice D2 B.h.length d2, .slice D3 B.w.length d3, .slice D4 B.f.length d4, .int .i64 B.n] 31
  have hO1 := hO.below ((Below.refl _ _).alloc (Nat.le_refl _) (.cells #[.slice D1 B.l.length d1, .slice D2 B.h.length d2, .slice D3 B.w.length d3, .slice D4 B.f.length d4, .int .i64 B.n] 31))
  have HN1 := Lib.hid (hO.neHigh (g := w1.heap.size) (Nat.le_refl _))
  have hB1 := (HB0.out.trans (hb1.mono HB0.out.size)).alloc (by omega) (.cells #[.slice D1 B.l.length d1, .slice D2 B.h.length d2, .slice D3 B.w.length d3, .slice D4 B.f.length d4, .int .i64 B.n] 31)
  obtain ⟨W1, hW1⟩ : ∃ W1, W1 = w1.alloc (.cells #[.slice D1 B.l.length d1, .slice D2 B.h.length d2, .slice D3 B.w.length d3, .slice D4 B.f.length d4, .int .i64 B.n] 31) := ⟨_, rfl⟩
  rw [← hW1] at k1 r1 q1 hO1 hB1
  have HS1 := Lib.hid (And.intro hO1 (And.intro k1 (And.intro r1 (And.intro q1 hB1))))
  obtain ⟨t0, -⟩ := k1.at_ 0 (x := .slice A1 B.l.length c1) rfl
  obtain ⟨t1, -⟩ := k1.at_ 1 (x := .slice A2 B.h.length c2) rfl
  obtain ⟨t2, -⟩ := k1.at_ 2 (x := .slice A3 B.w.length c3) rfl
  obtain ⟨t3, -⟩ := k1.at_ 3 (x := .slice A4 B.f.length c4) rfl
  obtain ⟨t4, -⟩ := k1.at_ 4 (x := .int .i64 B.n) rfl
  have HW1 := Lib.hid hW1
  have hgl := q1.lt
  clear k0 r0 hO hb1 hW1 k1 r1 q1 hO1 hB1
  go_upto_region 2 with (fail)
  rw [← HW1.out]
  go_upto_region 3 with (go_at_call 82; refine (indexH _ B.h ⟨t, x⟩ _ (HRW.out.below HS1.out.2.2.2.2).h).mono ?_; rintro e w7 ⟨ri, rfl, hix, hb7⟩)
  have HS7 := Lib.hid (And.intro (HS1.out.1.below hb7) (And.intro (HS1.out.2.1.below hb7 HS1.out.2.1.lt) (And.intro (HS1.out.2.2.1.below hb7 HS1.out.2.2.1.lt) (And.intro (HS1.out.2.2.2.1.below hb7 HS1.out.2.2.2.1.lt) (HS1.out.2.2.2.2.trans (hb7.mono HS1.out.2.2.2.2.size))))))
  have HBC := Lib.hid (HBO.out _ HS7.out.2.2.2.2)
  clear t0 t1 t2 t3 t4
  obtain ⟨t0, -⟩ := HS7.out.2.1.at_ 0 (x := .slice A1 B.l.length c1) rfl
  obtain ⟨t1, -⟩ := HS7.out.2.1.at_ 1 (x := .slice A2 B.h.length c2) rfl
  obtain ⟨t2, -⟩ := HS7.out.2.1.at_ 2 (x := .slice A3 B.w.length c3) rfl
  obtain ⟨t3, -⟩ := HS7.out.2.1.at_ 3 (x := .slice A4 B.f.length c4) rfl
  obtain ⟨t4, -⟩ := HS7.out.2.1.at_ 4 (x := .int .i64 B.n) rfl
  have hgl7 := HS7.out.2.2.2.1.lt
  clear hb7
  rcases hix with ⟨rfl, hix⟩ | ⟨k, rfl, hix⟩
  · have HNO := Lib.hid (dropOk_no (B := B) (t := t) (x := x) (by unfold dropOk; rw [decide_eq_false hix]; simp))
    clear hix
    cases hok : bnOk B
    all_goals
      rw [hok] at HBC
      clear hok
      go_wp2_with (go_at_call 58; refine HBC.out.mono ?_; rintro e w2 ⟨rfl, hb2⟩; obtain ⟨hO1, k1, r1, q1, hB1⟩ := HS7.out; have k2 := k1.below hb2 k1.lt; have r2 := r1.below hb2 r1.lt; have q2 := q1.below hb2 q1.lt; have hO2 := hO1.below hb2; have hB2 := hB1.trans (hb2.mono hB1.size); obtain ⟨n0, nf0⟩ := k2.at_ 0 (x := .slice A1 B.l.length c1) rfl; obtain ⟨n1, nf1⟩ := k2.at_ 1 (x := .slice A2 B.h.length c2) rfl; obtain ⟨n2, nf2⟩ := k2.at_ 2 (x := .slice A3 B.w.length c3) rfl; obtain ⟨n3, nf3⟩ := k2.at_ 3 (x := .slice A4 B.f.length c4) rfl; obtain ⟨n4, nf4⟩ := k2.at_ 4 (x := .int .i64 B.n) rfl; obtain ⟨e0, ef0⟩ := q2.at_ 0 (x := .slice D1 B.l.length d1) rfl; obtain ⟨e1, ef1⟩ := q2.at_ 1 (x := .slice D2 B.h.length d2) rfl; obtain ⟨e2, ef2⟩ := q2.at_ 2 (x := .slice D3 B.w.length d3) rfl; obtain ⟨e3, ef3⟩ := q2.at_ 3 (x := .slice D4 B.f.length d4) rfl; obtain ⟨e4, ef4⟩ := q2.at_ 4 (x := .int .i64 B.n) rfl; obtain ⟨f0, ff0⟩ := r2.at_ 0 (x := .slice none 0 0) rfl; obtain ⟨f1, ff1⟩ := r2.at_ 1 (x := .slice none 0 0) rfl; obtain ⟨f2, ff2⟩ := r2.at_ 2 (x := .slice none 0 0) rfl; obtain ⟨f3, ff3⟩ := r2.at_ 3 (x := .slice none 0 0) rfl; obtain ⟨f4, ff4⟩ := r2.at_ 4 (x := .int .i64 0) rfl)
      have qF := r2.set5 (.slice D1 B.l.length d1) (.slice D2 B.h.length d2) (.slice D3 B.w.length d3) (.slice D4 B.f.length d4) (.int .i64 B.n)
      obtain ⟨zz0, -⟩ := qF.at_ 0 (x := .slice D1 B.l.length d1) rfl
      obtain ⟨zz1, -⟩ := qF.at_ 1 (x := .slice D2 B.h.length d2) rfl
      obtain ⟨zz2, -⟩ := qF.at_ 2 (x := .slice D3 B.w.length d3) rfl
      obtain ⟨zz3, -⟩ := qF.at_ 3 (x := .slice D4 B.f.length d4) rfl
      obtain ⟨zz4, -⟩ := qF.at_ 4 (x := .int .i64 B.n) rfl
      refine bodyPost_ret (v := .tuple #[.agg #[.slice D1 B.l.length d1, .slice D2 B.h.length d2, .slice D3 B.w.length d3, .slice D4 B.f.length d4, .int .i64 B.n], .bool false]) (by simp [results, Try.results42, go_sem, zz0, zz1, zz2, zz3, zz4]) rfl ?_
      have hR := (hO2.only1 (hO2.neLow (by omega)) (only_set5 _ (w.heap.size + 1) (.slice D1 B.l.length d1) (.slice D2 B.h.length d2) (.slice D3 B.w.length d3) (.slice D4 B.f.length d4) (.int .i64 B.n))).ret (w := w) (x := .bool false) (by omega) (below_set5 hB2 (Nat.le_succ _) (.slice D1 B.l.length d1) (.slice D2 B.h.length d2) (.slice D3 B.w.length d3) (.slice D4 B.f.length d4) (.int .i64 B.n))
      rw [HNO.out.1, HNO.out.2]
      exact hR
  · have hkl := (List.getElem?_eq_some_iff.1 hix).1
    cases hok : bnOk B
    · have HNO := Lib.hid (dropOk_no (B := B) (t := t) (x := x) (by simp [dropOk, hok]))
      rw [hok] at HBC
      clear hok hix
      go_wp2_with (go_at_call 58; refine HBC.out.mono ?_; rintro e w2 ⟨rfl, hb2⟩; obtain ⟨hO1, k1, r1, q1, hB1⟩ := HS7.out; have k2 := k1.below hb2 k1.lt; have r2 := r1.below hb2 r1.lt; have q2 := q1.below hb2 q1.lt; have hO2 := hO1.below hb2; have hB2 := hB1.trans (hb2.mono hB1.size); obtain ⟨n0, nf0⟩ := k2.at_ 0 (x := .slice A1 B.l.length c1) rfl; obtain ⟨n1, nf1⟩ := k2.at_ 1 (x := .slice A2 B.h.length c2) rfl; obtain ⟨n2, nf2⟩ := k2.at_ 2 (x := .slice A3 B.w.length c3) rfl; obtain ⟨n3, nf3⟩ := k2.at_ 3 (x := .slice A4 B.f.length c4) rfl; obtain ⟨n4, nf4⟩ := k2.at_ 4 (x := .int .i64 B.n) rfl; obtain ⟨e0, ef0⟩ := q2.at_ 0 (x := .slice D1 B.l.length d1) rfl; obtain ⟨e1, ef1⟩ := q2.at_ 1 (x := .slice D2 B.h.length d2) rfl; obtain ⟨e2, ef2⟩ := q2.at_ 2 (x := .slice D3 B.w.length d3) rfl; obtain ⟨e3, ef3⟩ := q2.at_ 3 (x := .slice D4 B.f.length d4) rfl; obtain ⟨e4, ef4⟩ := q2.at_ 4 (x := .int .i64 B.n) rfl; obtain ⟨f0, ff0⟩ := r2.at_ 0 (x := .slice none 0 0) rfl; obtain ⟨f1, ff1⟩ := r2.at_ 1 (x := .slice none 0 0) rfl; obtain ⟨f2, ff2⟩ := r2.at_ 2 (x := .slice none 0 0) rfl; obtain ⟨f3, ff3⟩ := r2.at_ 3 (x := .slice none 0 0) rfl; obtain ⟨f4, ff4⟩ := r2.at_ 4 (x := .int .i64 0) rfl)
      have qF := r2.set5 (.slice D1 B.l.length d1) (.slice D2 B.h.length d2) (.slice D3 B.w.length d3) (.slice D4 B.f.length d4) (.int .i64 B.n)
      obtain ⟨zz0, -⟩ := qF.at_ 0 (x := .slice D1 B.l.length d1) rfl
      obtain ⟨zz1, -⟩ := qF.at_ 1 (x := .slice D2 B.h.length d2) rfl
      obtain ⟨zz2, -⟩ := qF.at_ 2 (x := .slice D3 B.w.length d3) rfl
      obtain ⟨zz3, -⟩ := qF.at_ 3 (x := .slice D4 B.f.length d4) rfl
      obtain ⟨zz4, -⟩ := qF.at_ 4 (x := .int .i64 B.n) rfl
      refine bodyPost_ret (v := .tuple #[.agg #[.slice D1 B.l.length d1, .slice D2 B.h.length d2, .slice D3 B.w.length d3, .slice D4 B.f.length d4, .int .i64 B.n], .bool false]) (by simp [results, Try.results42, go_sem, zz0, zz1, zz2, zz3, zz4]) rfl ?_
      have hR := (hO2.only1 (hO2.neLow (by omega)) (only_set5 _ (w.heap.size + 1) (.slice D1 B.l.length d1) (.slice D2 B.h.length d2) (.slice D3 B.w.length d3) (.slice D4 B.f.length d4) (.int .i64 B.n))).ret (w := w) (x := .bool false) (by omega) (below_set5 hB2 (Nat.le_succ _) (.slice D1 B.l.length d1) (.slice D2 B.h.length d2) (.slice D3 B.w.length d3) (.slice D4 B.f.length d4) (.int .i64 B.n))
      rw [HNO.out.1, HNO.out.2]
      exact hR
    rw [hok] at HBC
    have HOK := Lib.hid hok
    clear hok
    obtain ⟨gd, hgdE⟩ := owns_addr HS7.out.1.h (by omega)
    have hobD : (Value.slice D2 B.h.length d2).ownBlock = some gd := by rw [hgdE]; rfl
    have HGD := Lib.hid hgdE
    have HY := Lib.hid (dropOk_yes (B := B) (t := t) (x := x) (by unfold dropOk; rw [HOK.out, decide_eq_true (List.mem_of_getElem? hix)]; rfl))
    have hles : (dropBn B t x).h = B.h.eraseIdx k := by
      rw [HY.out.1]
      exact filter_ne_eraseH (bnOk_iff.1 HOK.out).2.2.2.2 hix
    have hlen7 : (dropBn B t x).h.length = B.h.length - 1 := by rw [hles, List.length_eraseIdx_of_lt hkl]
    have hcc := owns_caps HS7.out.1.h
    have hcn := hcc.1
    have hcm := hcc.2
    have hgd := (HS7.out.1.h.lt gd hobD)
    have HOBD := Lib.hid hobD
    have HLE := Lib.hid hles
    have HLN := Lib.hid hlen7
    clear hles hlen7 hix hcc hgdE hobD
    go_upto_region 6 with (first
      | (go_at_call 58; refine HBC.out.mono ?_; rintro e w2 ⟨rfl, hb2⟩; obtain ⟨hO1, k1, r1, q1, hB1⟩ := HS7.out; have k2 := k1.below hb2 k1.lt; have r2 := r1.below hb2 r1.lt; have q2 := q1.below hb2 q1.lt; have hO2 := hO1.below hb2; have hB2 := hB1.trans (hb2.mono hB1.size); obtain ⟨n0, nf0⟩ := k2.at_ 0 (x := .slice A1 B.l.length c1) rfl; obtain ⟨n1, nf1⟩ := k2.at_ 1 (x := .slice A2 B.h.length c2) rfl; obtain ⟨n2, nf2⟩ := k2.at_ 2 (x := .slice A3 B.w.length c3) rfl; obtain ⟨n3, nf3⟩ := k2.at_ 3 (x := .slice A4 B.f.length c4) rfl; obtain ⟨n4, nf4⟩ := k2.at_ 4 (x := .int .i64 B.n) rfl; obtain ⟨e0, ef0⟩ := q2.at_ 0 (x := .slice D1 B.l.length d1) rfl; obtain ⟨e1, ef1⟩ := q2.at_ 1 (x := .slice D2 B.h.length d2) rfl; obtain ⟨e2, ef2⟩ := q2.at_ 2 (x := .slice D3 B.w.length d3) rfl; obtain ⟨e3, ef3⟩ := q2.at_ 3 (x := .slice D4 B.f.length d4) rfl; obtain ⟨e4, ef4⟩ := q2.at_ 4 (x := .int .i64 B.n) rfl; obtain ⟨f0, ff0⟩ := r2.at_ 0 (x := .slice none 0 0) rfl; obtain ⟨f1, ff1⟩ := r2.at_ 1 (x := .slice none 0 0) rfl; obtain ⟨f2, ff2⟩ := r2.at_ 2 (x := .slice none 0 0) rfl; obtain ⟨f3, ff3⟩ := r2.at_ 3 (x := .slice none 0 0) rfl; obtain ⟨f4, ff4⟩ := r2.at_ 4 (x := .int .i64 0) rfl)
      | (go_at_call 83; rw [HGD.out]; refine (deleteHT gd d2 k B.h W0.heap.size _ (by have h9 := hO2.h; rw [HGD.out] at h9; exact h9) hkl hcn hcm).mono ?_; rintro e w3 ⟨rfl, h7, ho3⟩; have r3 := r2.only ho3 (by simp; omega); have q3 := q2.only ho3 (by simp; exact fun e9 => HN1.out.2.1 (by rw [HOBD.out, e9])); obtain ⟨m0, mf0⟩ := q3.at_ 1 (x := .slice D2 B.h.length d2) rfl))
    obtain ⟨A7, hA7⟩ : ∃ A7 : Option Addr, A7 = some ⟨gd, 0, none⟩ := ⟨_, rfl⟩
    obtain ⟨c7, hc7⟩ : ∃ c7, c7 = d2 := ⟨_, rfl⟩
    rw [show B.h.length - 1 = (dropBn B t x).h.length from HLN.out.symm, ← HLE.out, ← hA7, ← hc7] at h7
    rw [show B.h.length - 1 = (dropBn B t x).h.length from HLN.out.symm, ← hA7, ← hc7]
    have hob : (Value.slice A7 (dropBn B t x).h.length c7).ownBlock = (Value.slice D2 B.h.length d2).ownBlock := by rw [HOBD.out, hA7]; rfl
    have hO3 : OwnBT w3 W0.heap.size (.slice D1 B.l.length d1) (.slice A7 (dropBn B t x).h.length c7) (.slice D3 B.w.length d3) (.slice D4 B.f.length d4) (dropBn B t x) := hO2.putH h7 (by rw [HOBD.out]; exact Only.grownOne ho3) (.inl hob) (by rw [HY.out.1]) (by rw [HY.out.1]) (by rw [HY.out.1])
    have hN3 : NeB w1.heap.size (.slice D1 B.l.length d1) (.slice A7 (dropBn B t x).h.length c7) (.slice D3 B.w.length d3) (.slice D4 B.f.length d4) := ⟨HN1.out.1, by rw [hob]; exact HN1.out.2.1, HN1.out.2.2⟩
    have hB3 := hB2.trans (ho3.below (B := w.heap.size) hB2.size (by simp; omega))
    clear m0 mf0 n0 n1 n2 n3 n4 nf0 nf1 nf2 nf3 nf4 e0 e1 e2 e3 e4 ef0 ef1 ef2 ef3 ef4 f0 f1 f2 f3 f4 ff0 ff1 ff2 ff3 ff4 h7 ho3 hb2 k2 r2 q2 hO2 hB2 hob hA7 hc7
    have q4 := q3.set_ 1 (.slice A7 (dropBn B t x).h.length c7)
    have r4 := r3.far (p := ⟨w1.heap.size, 1, none⟩) (by simp; omega) (.slice A7 (dropBn B t x).h.length c7)
    have hO4 := hO3.only1 hN3 (Only.setCell w3 (i := 1) (.slice A7 (dropBn B t x).h.length c7))
    have hB4 := hB3.setCell (p := ⟨w1.heap.size, 1, none⟩) (by show w.heap.size ≤ w1.heap.size; omega) (.slice A7 (dropBn B t x).h.length c7)
    obtain ⟨W4, hW4⟩ : ∃ W4, W4 = w3.setCell ⟨w1.heap.size, 1, none⟩ (.slice A7 (dropBn B t x).h.length c7) := ⟨_, rfl⟩
    rw [← hW4] at q4 r4 hO4 hB4 ⊢
    have HFIN := Lib.hid (And.intro r4 (And.intro hO4 hB4))
    obtain ⟨g0, gf0⟩ := q4.at_ 0 (x := .slice D1 B.l.length d1) rfl
    obtain ⟨g1, gf1⟩ := q4.at_ 1 (x := .slice A7 (dropBn B t x).h.length c7) rfl
    obtain ⟨g2, gf2⟩ := q4.at_ 2 (x := .slice D3 B.w.length d3) rfl
    obtain ⟨g3, gf3⟩ := q4.at_ 3 (x := .slice D4 B.f.length d4) rfl
    obtain ⟨g4, gf4⟩ := q4.at_ 4 (x := .int .i64 B.n) rfl
    obtain ⟨h0, hf0⟩ := r4.at_ 0 (x := .slice none 0 0) rfl
    obtain ⟨h1, hf1⟩ := r4.at_ 1 (x := .slice none 0 0) rfl
    obtain ⟨h2, hf2⟩ := r4.at_ 2 (x := .slice none 0 0) rfl
    obtain ⟨h3, hf3⟩ := r4.at_ 3 (x := .slice none 0 0) rfl
    obtain ⟨h4, hf4⟩ := r4.at_ 4 (x := .int .i64 0) rfl
    clear hW4 q4 r4 hO4 hB4 q3 r3 hO3 hN3 hB3
    go_wp2_with fail
    obtain ⟨r4, hO4, hB4⟩ := HFIN.out
    have qF := r4.set5 (.slice D1 B.l.length d1) (.slice A7 (dropBn B t x).h.length c7) (.slice D3 B.w.length d3) (.slice D4 B.f.length d4) (.int .i64 B.n)
    obtain ⟨zz0, -⟩ := qF.at_ 0 (x := .slice D1 B.l.length d1) rfl
    obtain ⟨zz1, -⟩ := qF.at_ 1 (x := .slice A7 (dropBn B t x).h.length c7) rfl
    obtain ⟨zz2, -⟩ := qF.at_ 2 (x := .slice D3 B.w.length d3) rfl
    obtain ⟨zz3, -⟩ := qF.at_ 3 (x := .slice D4 B.f.length d4) rfl
    obtain ⟨zz4, -⟩ := qF.at_ 4 (x := .int .i64 B.n) rfl
    refine bodyPost_ret (v := .tuple #[.agg #[.slice D1 B.l.length d1, .slice A7 (dropBn B t x).h.length c7, .slice D3 B.w.length d3, .slice D4 B.f.length d4, .int .i64 B.n], .bool true]) (by simp [results, Try.results42, go_sem, zz0, zz1, zz2, zz3, zz4]) rfl ?_
    have hR := (hO4.only1 (hO4.neLow (by omega)) (only_set5 _ (w.heap.size + 1) (.slice D1 B.l.length d1) (.slice A7 (dropBn B t x).h.length c7) (.slice D3 B.w.length d3) (.slice D4 B.f.length d4) (.int .i64 B.n))).ret (w := w) (x := .bool true) (by omega) (below_set5 hB4 (Nat.le_succ _) (.slice D1 B.l.length d1) (.slice A7 (dropBn B t x).h.length c7) (.slice D3 B.w.length d3) (.slice D4 B.f.length d4) (.int .i64 B.n))
    rw [show (dropBn B t x).n = B.n by rw [HY.out.1]] at hR
    rw [HY.out.2]
    exact hR
def dropTo (B : Bn) (t x : Int) (k : Nat) : List P2 := (B.h.take k).filter fun e => !decide (e = ⟨t, x⟩)
theorem dropTo_yes {B : Bn} {t x ea eb : Int} {k : Nat} (h : B.h[k]? = some ⟨ea, eb⟩) (hn : ¬ (ea = t ∧ eb = x)) : dropTo B t x (k + 1) = dropTo B t x k ++ [⟨ea, eb⟩] := by
  unfold dropTo
  rw [List.take_add_one, h]
  simp [List.filter_append, hn]
theorem dropTo_no {B : Bn} {t x ea eb : Int} {k : Nat} (h : B.h[k]? = some ⟨ea, eb⟩) (hn : ea = t ∧ eb = x) : dropTo B t x (k + 1) = dropTo B t x k := by
  unfold dropTo
  rw [List.take_add_one, h]
  simp [List.filter_append, hn]
theorem dropTo_all {B : Bn} {t x : Int} (h : dropBn B t x = { B with h := B.h.filter fun e => !decide (e = ⟨t, x⟩) }) : dropTo B t x B.h.length = (dropBn B t x).h := by
  rw [h]
  simp [dropTo]
set_option maxHeartbeats 3200000 in
theorem spec_DropHold (a b c d : Value) (B : Bn) (t x : Int) (w : World) (r : RdBn w a b c d B)  (hsz : szBn B ≤ 16777215) :
    Calls Try.prog 52 #[.agg #[a, b, c, d, .int .i64 B.n], .int .i64 t, .int .i64 x] w (RetBnV (dropBn B t x) (.bool (dropOk B t x)) w) := by
  obtain ⟨A1, c1, A2, c2, A3, c3, A4, c4, ⟨rfl, rfl, rfl, rfl⟩, -, -⟩ := r.slices
  obtain ⟨i, hi, hiz0, hiz1, hiz2⟩ := info_parts infoHold
  have hll : (B.l.length ≤ 16777215 ∧ B.h.length ≤ 16777215) ∧ B.w.length ≤ 16777215 ∧ B.f.length ≤ 16777215 := by unfold szBn at hsz; omega
  obtain ⟨W0, hW0⟩ : ∃ W0, W0 = (w.alloc (.cells #[.slice A1 B.l.length c1, .slice A2 B.h.length c2, .slice A3 B.w.length c3, .slice A4 B.f.length c4, .int .i64 B.n] 31)).alloc (.cells #[.slice none 0 0, .slice none 0 0, .slice none 0 0, .slice none 0 0, .int .i64 0] 31) := ⟨_, rfl⟩
  have hB0 := ((Below.refl w.heap.size w).alloc (Nat.le_refl _) (.cells #[.slice A1 B.l.length c1, .slice A2 B.h.length c2, .slice A3 B.w.length c3, .slice A4 B.f.length c4, .int .i64 B.n] 31)).alloc (by simp) (.cells #[.slice none 0 0, .slice none 0 0, .slice none 0 0, .slice none 0 0, .int .i64 0] 31)
  have k0 := (Bk.new w #[.slice A1 B.l.length c1, .slice A2 B.h.length c2, .slice A3 B.w.length c3, .slice A4 B.f.length c4, .int .i64 B.n] 31).alloc (.cells #[.slice none 0 0, .slice none 0 0, .slice none 0 0, .slice none 0 0, .int .i64 0] 31)
  have r0 := Bk.new (w.alloc (.cells #[.slice A1 B.l.length c1, .slice A2 B.h.length c2, .slice A3 B.w.length c3, .slice A4 B.f.length c4, .int .i64 B.n] 31)) #[.slice none 0 0, .slice none 0 0, .slice none 0 0, .slice none 0 0, .int .i64 0] 31
  simp only [World.size_alloc] at r0
  have hs0 : W0.heap.size = w.heap.size + 2 := by rw [hW0]; simp
  rw [← hW0] at hB0 k0 r0
  have HBO : Hid (∀ W : World, Below w.heap.size w W → Calls Try.prog 35 #[.agg #[.slice A1 B.l.length c1, .slice A2 B.h.length c2, .slice A3 B.w.length c3, .slice A4 B.f.length c4, .int .i64 B.n]] W fun e w' => e = .returned (.bool (bnOk B)) ∧ Below W.heap.size W w') := Lib.hid (fun W hW => spec_BenchOk _ _ _ _ B W (r.below hW) (by omega))
  have HC := Lib.hid (l09CopyT _ _ _ _ B W0 (r.below hB0) (by omega))
  have HRW := Lib.hid r
  have HSZ := Lib.hid hsz
  have HW0 := Lib.hid hW0
  have hz0 : w.heap.size + 2 ≤ W0.heap.size := by omega
  have HB0 := Lib.hid hB0
  obtain ⟨y0, -⟩ := k0.at_ 0 (x := .slice A1 B.l.length c1) rfl
  clear hW0 hs0 hB0 r hsz
  go_enter Try.func52, Try.ntmps52
  go_wp2_with fail
  rw [← HW0.out]
  clear y0
  refine HC.out.mono ?_
  rintro e w1 ⟨u1, u2, u3, u4, rfl, hO, hb1⟩
  obtain ⟨D1, d1, rfl⟩ := owns_form' hO.l
  obtain ⟨D2, d2, rfl⟩ := owns_form' hO.h
  obtain ⟨D3, d3, rfl⟩ := owns_form' hO.q
  obtain ⟨D4, d4, rfl⟩ := owns_form' hO.f
  have hz1 := hb1.size
  have k1 := (k0.below hb1 k0.lt).alloc (.cells #[.slice D1 B.l.length d1, .slice D2 B.h.length d2, .slice D3 B.w.length d3, .slice D4 B.f.length d4, .int .i64 B.n] 31)
  have r1 := (r0.below hb1 r0.lt).alloc (.cells #[.slice D1 B.l.length d1, .slice D2 B.h.length d2, .slice D3 B.w.length d3, .slice D4 B.f.length d4, .int .i64 B.n] 31)
  have q1 := Bk.new w1 #[.slice D1 B.l.length d1, .slice D2 B.h.length d2, .slice D3 B.w.length d3, .slice D4 B.f.length d4, .int .i64 B.n] 31
  have hO1 := hO.below ((Below.refl _ _).alloc (Nat.le_refl _) (.cells #[.slice D1 B.l.length d1, .slice D2 B.h.length d2, .slice D3 B.w.length d3, .slice D4 B.f.length d4, .int .i64 B.n] 31))
  have HN1 := Lib.hid (hO.neHigh (g := w1.heap.size) (Nat.le_refl _))
  have hB1 := (HB0.out.trans (hb1.mono HB0.out.size)).alloc (by omega) (.cells #[.slice D1 B.l.length d1, .slice D2 B.h.length d2, .slice D3 B.w.length d3, .slice D4 B.f.length d4, .int .i64 B.n] 31)
  obtain ⟨W1, hW1⟩ : ∃ W1, W1 = w1.alloc (.cells #[.slice D1 B.l.length d1, .slice D2 B.h.length d2, .slice D3 B.w.length d3, .slice D4 B.f.length d4, .int .i64 B.n] 31) := ⟨_, rfl⟩
  rw [← hW1] at k1 r1 q1 hO1 hB1
  have HS1 := Lib.hid (And.intro hO1 (And.intro k1 (And.intro r1 (And.intro q1 hB1))))
  have HBC := Lib.hid (HBO.out _ hB1)
  obtain ⟨t0, -⟩ := k1.at_ 0 (x := .slice A1 B.l.length c1) rfl
  obtain ⟨t1, -⟩ := k1.at_ 1 (x := .slice A2 B.h.length c2) rfl
  obtain ⟨t2, -⟩ := k1.at_ 2 (x := .slice A3 B.w.length c3) rfl
  obtain ⟨t3, -⟩ := k1.at_ 3 (x := .slice A4 B.f.length c4) rfl
  obtain ⟨t4, -⟩ := k1.at_ 4 (x := .int .i64 B.n) rfl
  have HW1 := Lib.hid hW1
  have hgl := q1.lt
  clear k0 r0 hO hb1 hW1 k1 r1 q1 hO1 hB1
  go_upto_region 2 with (fail)
  rw [← HW1.out]
  cases hok : bnOk B
  · have HNO := Lib.hid (dropOk_no (B := B) (t := t) (x := x) (by simp [dropOk, hok]))
    rw [hok] at HBC
    clear hok
    go_wp2_with (go_at_call 35; refine HBC.out.mono ?_; rintro e w2 ⟨rfl, hb2⟩; obtain ⟨hO1, k1, r1, q1, hB1⟩ := HS1.out; have k2 := k1.below hb2 k1.lt; have r2 := r1.below hb2 r1.lt; have q2 := q1.below hb2 q1.lt; have hO2 := hO1.below hb2; have hB2 := hB1.trans (hb2.mono hB1.size); obtain ⟨n0, nf0⟩ := k2.at_ 0 (x := .slice A1 B.l.length c1) rfl; obtain ⟨n1, nf1⟩ := k2.at_ 1 (x := .slice A2 B.h.length c2) rfl; obtain ⟨n2, nf2⟩ := k2.at_ 2 (x := .slice A3 B.w.length c3) rfl; obtain ⟨n3, nf3⟩ := k2.at_ 3 (x := .slice A4 B.f.length c4) rfl; obtain ⟨n4, nf4⟩ := k2.at_ 4 (x := .int .i64 B.n) rfl; obtain ⟨e0, ef0⟩ := q2.at_ 0 (x := .slice D1 B.l.length d1) rfl; obtain ⟨e1, ef1⟩ := q2.at_ 1 (x := .slice D2 B.h.length d2) rfl; obtain ⟨e2, ef2⟩ := q2.at_ 2 (x := .slice D3 B.w.length d3) rfl; obtain ⟨e3, ef3⟩ := q2.at_ 3 (x := .slice D4 B.f.length d4) rfl; obtain ⟨e4, ef4⟩ := q2.at_ 4 (x := .int .i64 B.n) rfl; obtain ⟨f0, ff0⟩ := r2.at_ 0 (x := .slice none 0 0) rfl; obtain ⟨f1, ff1⟩ := r2.at_ 1 (x := .slice none 0 0) rfl; obtain ⟨f2, ff2⟩ := r2.at_ 2 (x := .slice none 0 0) rfl; obtain ⟨f3, ff3⟩ := r2.at_ 3 (x := .slice none 0 0) rfl; obtain ⟨f4, ff4⟩ := r2.at_ 4 (x := .int .i64 0) rfl)
    have qF := r2.set5 (.slice D1 B.l.length d1) (.slice D2 B.h.length d2) (.slice D3 B.w.length d3) (.slice D4 B.f.length d4) (.int .i64 B.n)
    obtain ⟨zz0, -⟩ := qF.at_ 0 (x := .slice D1 B.l.length d1) rfl
    obtain ⟨zz1, -⟩ := qF.at_ 1 (x := .slice D2 B.h.length d2) rfl
    obtain ⟨zz2, -⟩ := qF.at_ 2 (x := .slice D3 B.w.length d3) rfl
    obtain ⟨zz3, -⟩ := qF.at_ 3 (x := .slice D4 B.f.length d4) rfl
    obtain ⟨zz4, -⟩ := qF.at_ 4 (x := .int .i64 B.n) rfl
    refine bodyPost_ret (v := .tuple #[.agg #[.slice D1 B.l.length d1, .slice D2 B.h.length d2, .slice D3 B.w.length d3, .slice D4 B.f.length d4, .int .i64 B.n], .bool false]) (by simp [results, Try.results52, go_sem, zz0, zz1, zz2, zz3, zz4]) rfl ?_
    have hR := (hO2.only1 (hO2.neLow (by omega)) (only_set5 _ (w.heap.size + 1) (.slice D1 B.l.length d1) (.slice D2 B.h.length d2) (.slice D3 B.w.length d3) (.slice D4 B.f.length d4) (.int .i64 B.n))).ret (w := w) (x := .bool false) (by omega) (below_set5 hB2 (Nat.le_succ _) (.slice D1 B.l.length d1) (.slice D2 B.h.length d2) (.slice D3 B.w.length d3) (.slice D4 B.f.length d4) (.int .i64 B.n))
    rw [HNO.out.1, HNO.out.2]
    exact hR
  rw [hok] at HBC
  have HOK := Lib.hid hok
  clear hok
  cases hv4 : decide ((⟨t, x⟩ : P2) ∈ B.h)
  case false =>
    have HNO := Lib.hid (dropOk_no (B := B) (t := t) (x := x) (by unfold dropOk; rw [hv4]; simp))
    have HV4 := Lib.hid hv4
    clear hv4
    go_wp2_with (first
    | (go_at_call 35; refine HBC.out.mono ?_; rintro e w2 ⟨rfl, hb2⟩; obtain ⟨hO1, k1, r1, q1, hB1⟩ := HS1.out; have k2 := k1.below hb2 k1.lt; have r2 := r1.below hb2 r1.lt; have q2 := q1.below hb2 q1.lt; have hO2 := hO1.below hb2; have hB2 := hB1.trans (hb2.mono hB1.size); obtain ⟨n0, nf0⟩ := k2.at_ 0 (x := .slice A1 B.l.length c1) rfl; obtain ⟨n1, nf1⟩ := k2.at_ 1 (x := .slice A2 B.h.length c2) rfl; obtain ⟨n2, nf2⟩ := k2.at_ 2 (x := .slice A3 B.w.length c3) rfl; obtain ⟨n3, nf3⟩ := k2.at_ 3 (x := .slice A4 B.f.length c4) rfl; obtain ⟨n4, nf4⟩ := k2.at_ 4 (x := .int .i64 B.n) rfl; obtain ⟨e0, ef0⟩ := q2.at_ 0 (x := .slice D1 B.l.length d1) rfl; obtain ⟨e1, ef1⟩ := q2.at_ 1 (x := .slice D2 B.h.length d2) rfl; obtain ⟨e2, ef2⟩ := q2.at_ 2 (x := .slice D3 B.w.length d3) rfl; obtain ⟨e3, ef3⟩ := q2.at_ 3 (x := .slice D4 B.f.length d4) rfl; obtain ⟨e4, ef4⟩ := q2.at_ 4 (x := .int .i64 B.n) rfl; obtain ⟨f0, ff0⟩ := r2.at_ 0 (x := .slice none 0 0) rfl; obtain ⟨f1, ff1⟩ := r2.at_ 1 (x := .slice none 0 0) rfl; obtain ⟨f2, ff2⟩ := r2.at_ 2 (x := .slice none 0 0) rfl; obtain ⟨f3, ff3⟩ := r2.at_ 3 (x := .slice none 0 0) rfl; obtain ⟨f4, ff4⟩ := r2.at_ 4 (x := .int .i64 0) rfl)
    | (go_at_call 78; refine (spec_HeldBy _ _ _ _ B t _ (HRW.out.below hB2) (by have := HSZ.out; omega)).mono ?_; rintro e w3 ⟨v7, bs7, rfl, ho7, lo7, hb3⟩; obtain ⟨D7, d7, rfl, -, -⟩ := ho7.slice; have k3 := k2.below hb3 k2.lt; have r3 := r2.below hb3 r2.lt; have q3 := q2.below hb3 q2.lt; have hO3 := hO2.below hb3; have hB3 := hB2.trans (hb3.mono hB2.size); obtain ⟨eb0, ebf0⟩ := q3.at_ 0 (x := .slice D1 B.l.length d1) rfl; obtain ⟨eb1, ebf1⟩ := q3.at_ 1 (x := .slice D2 B.h.length d2) rfl; obtain ⟨eb2, ebf2⟩ := q3.at_ 2 (x := .slice D3 B.w.length d3) rfl; obtain ⟨eb3, ebf3⟩ := q3.at_ 3 (x := .slice D4 B.f.length d4) rfl; obtain ⟨eb4, ebf4⟩ := q3.at_ 4 (x := .int .i64 B.n) rfl; obtain ⟨fb0, fbf0⟩ := r3.at_ 0 (x := .slice none 0 0) rfl; obtain ⟨fb1, fbf1⟩ := r3.at_ 1 (x := .slice none 0 0) rfl; obtain ⟨fb2, fbf2⟩ := r3.at_ 2 (x := .slice none 0 0) rfl; obtain ⟨fb3, fbf3⟩ := r3.at_ 3 (x := .slice none 0 0) rfl; obtain ⟨fb4, fbf4⟩ := r3.at_ 4 (x := .int .i64 0) rfl)
    | (go_at_call 67; refine (l01Has _ (heldF B t) x _ ho7.rd).mono ?_; rintro e w' ⟨rfl, rfl⟩; rw [heldF_mem HOK.out, HV4.out]))
    have qF := r3.set5 (.slice D1 B.l.length d1) (.slice D2 B.h.length d2) (.slice D3 B.w.length d3) (.slice D4 B.f.length d4) (.int .i64 B.n)
    obtain ⟨zz0, -⟩ := qF.at_ 0 (x := .slice D1 B.l.length d1) rfl
    obtain ⟨zz1, -⟩ := qF.at_ 1 (x := .slice D2 B.h.length d2) rfl
    obtain ⟨zz2, -⟩ := qF.at_ 2 (x := .slice D3 B.w.length d3) rfl
    obtain ⟨zz3, -⟩ := qF.at_ 3 (x := .slice D4 B.f.length d4) rfl
    obtain ⟨zz4, -⟩ := qF.at_ 4 (x := .int .i64 B.n) rfl
    refine bodyPost_ret (v := .tuple #[.agg #[.slice D1 B.l.length d1, .slice D2 B.h.length d2, .slice D3 B.w.length d3, .slice D4 B.f.length d4, .int .i64 B.n], .bool false]) (by simp [results, Try.results52, go_sem, zz0, zz1, zz2, zz3, zz4]) rfl ?_
    have hR := (hO3.only1 (hO3.neLow (by omega)) (only_set5 _ (w.heap.size + 1) (.slice D1 B.l.length d1) (.slice D2 B.h.length d2) (.slice D3 B.w.length d3) (.slice D4 B.f.length d4) (.int .i64 B.n))).ret (w := w) (x := .bool false) (by omega) (below_set5 hB3 (Nat.le_succ _) (.slice D1 B.l.length d1) (.slice D2 B.h.length d2) (.slice D3 B.w.length d3) (.slice D4 B.f.length d4) (.int .i64 B.n))
    rw [HNO.out.1, HNO.out.2]
    exact hR
  have HV4 := Lib.hid hv4
  clear hv4
  have HY := Lib.hid (dropOk_yes (B := B) (t := t) (x := x) (by unfold dropOk; rw [HOK.out, HV4.out]; rfl))
  go_wp2_with (first
    | (go_at_call 35; refine HBC.out.mono ?_; rintro e w2 ⟨rfl, hb2⟩; obtain ⟨hO1, k1, r1, q1, hB1⟩ := HS1.out; have k2 := k1.below hb2 k1.lt; have r2 := r1.below hb2 r1.lt; have q2 := q1.below hb2 q1.lt; have hO2 := hO1.below hb2; have hB2 := hB1.trans (hb2.mono hB1.size); obtain ⟨n0, nf0⟩ := k2.at_ 0 (x := .slice A1 B.l.length c1) rfl; obtain ⟨n1, nf1⟩ := k2.at_ 1 (x := .slice A2 B.h.length c2) rfl; obtain ⟨n2, nf2⟩ := k2.at_ 2 (x := .slice A3 B.w.length c3) rfl; obtain ⟨n3, nf3⟩ := k2.at_ 3 (x := .slice A4 B.f.length c4) rfl; obtain ⟨n4, nf4⟩ := k2.at_ 4 (x := .int .i64 B.n) rfl; obtain ⟨e0, ef0⟩ := q2.at_ 0 (x := .slice D1 B.l.length d1) rfl; obtain ⟨e1, ef1⟩ := q2.at_ 1 (x := .slice D2 B.h.length d2) rfl; obtain ⟨e2, ef2⟩ := q2.at_ 2 (x := .slice D3 B.w.length d3) rfl; obtain ⟨e3, ef3⟩ := q2.at_ 3 (x := .slice D4 B.f.length d4) rfl; obtain ⟨e4, ef4⟩ := q2.at_ 4 (x := .int .i64 B.n) rfl; obtain ⟨f0, ff0⟩ := r2.at_ 0 (x := .slice none 0 0) rfl; obtain ⟨f1, ff1⟩ := r2.at_ 1 (x := .slice none 0 0) rfl; obtain ⟨f2, ff2⟩ := r2.at_ 2 (x := .slice none 0 0) rfl; obtain ⟨f3, ff3⟩ := r2.at_ 3 (x := .slice none 0 0) rfl; obtain ⟨f4, ff4⟩ := r2.at_ 4 (x := .int .i64 0) rfl)
    | (go_at_call 78; refine (spec_HeldBy _ _ _ _ B t _ (HRW.out.below hB2) (by have := HSZ.out; omega)).mono ?_; rintro e w3 ⟨v7, bs7, rfl, ho7, lo7, hb3⟩; obtain ⟨D7, d7, rfl, -, -⟩ := ho7.slice; have k3 := k2.below hb3 k2.lt; have r3 := r2.below hb3 r2.lt; have q3 := q2.below hb3 q2.lt; have hO3 := hO2.below hb3; have hB3 := hB2.trans (hb3.mono hB2.size); obtain ⟨eb0, ebf0⟩ := q3.at_ 0 (x := .slice D1 B.l.length d1) rfl; obtain ⟨eb1, ebf1⟩ := q3.at_ 1 (x := .slice D2 B.h.length d2) rfl; obtain ⟨eb2, ebf2⟩ := q3.at_ 2 (x := .slice D3 B.w.length d3) rfl; obtain ⟨eb3, ebf3⟩ := q3.at_ 3 (x := .slice D4 B.f.length d4) rfl; obtain ⟨eb4, ebf4⟩ := q3.at_ 4 (x := .int .i64 B.n) rfl; obtain ⟨fb0, fbf0⟩ := r3.at_ 0 (x := .slice none 0 0) rfl; obtain ⟨fb1, fbf1⟩ := r3.at_ 1 (x := .slice none 0 0) rfl; obtain ⟨fb2, fbf2⟩ := r3.at_ 2 (x := .slice none 0 0) rfl; obtain ⟨fb3, fbf3⟩ := r3.at_ 3 (x := .slice none 0 0) rfl; obtain ⟨fb4, fbf4⟩ := r3.at_ 4 (x := .int .i64 0) rfl)
    | (go_at_call 67; refine (l01Has _ (heldF B t) x _ ho7.rd).mono ?_; rintro e w' ⟨rfl, rfl⟩; rw [heldF_mem HOK.out, HV4.out]))
  obtain ⟨wz, hwz⟩ : ∃ wz, wz = w3.setCell ⟨w1.heap.size, 1, none⟩ (.slice none 0 0) := ⟨_, rfl⟩
  have hOz := hO3.only1 HN1.out (Only.setCell w3 (i := 1) (.slice none 0 0))
  have qz := q3.set_ 1 (.slice none 0 0)
  have kz := k3.far (p := ⟨w1.heap.size, 1, none⟩) (by simp; omega) (.slice none 0 0)
  have rz := r3.far (p := ⟨w1.heap.size, 1, none⟩) (by simp; omega) (.slice none 0 0)
  have hBz := hB3.setCell (p := ⟨w1.heap.size, 1, none⟩) (by show w.heap.size ≤ w1.heap.size; omega) (.slice none 0 0)
  rw [← hwz] at hOz qz kz rz hBz ⊢
  have HZZ := Lib.hid (And.intro hOz (And.intro kz (And.intro rz hBz)))
  have hgz := qz.lt
  have hwsz := hBz.size
  clear hwz hO3 hO2 q3 q2 k3 k2 r3 r2 hB3 hB2 hb3 hb2 hOz kz rz hBz n0 n1 n2 n3 n4 nf0 nf1 nf2 nf3 nf4 e0 e1 e2 e3 e4 ef0 ef1 ef2 ef3 ef4 f0 f1 f2 f3 f4 ff0 ff1 ff2 ff3 ff4 eb0 eb1 eb2 eb3 eb4 ebf0 ebf1 ebf2 ebf3 ebf4 fb0 fb1 fb2 fb3 fb4 fbf0 fbf1 fbf2 fbf3 fbf4 t0 t1 t2 t3 t4
  go_loopw [9] (fun iv wr => ∃ (k m : Nat) (v : Value), k ≤ B.h.length ∧ m ≤ k ∧ iv = .int .i64 k ∧ wr.ownsRow wz.heap.size 92 2 v m (flc2 (dropTo B t x k)) ∧ Bk wr w1.heap.size #[.slice D1 B.l.length d1, v, .slice D3 B.w.length d3, .slice D4 B.f.length d4, .int .i64 B.n] 31 ∧ Only [w1.heap.size] wz wr) (fun iv _ => B.h.length - (intOf iv).toNat)
  case atStart => exact ⟨0, 0, .slice none 0 0, Nat.zero_le _, Nat.le_refl _, rfl, ⟨rfl, .inl ⟨rfl, rfl⟩⟩, qz, Only.refl _ _⟩
  case round =>
    obtain ⟨k, m, v, hk, hm, rfl, hO, kv, hon⟩ := hrel
    clear qz
    have kbw := HZZ.out.2.1.only hon (by simp; omega)
    obtain ⟨v5, c5, rfl⟩ := owns_form' hO
    obtain ⟨t1, -⟩ := kbw.at_ 1 (x := .slice A2 B.h.length c2) rfl
    obtain ⟨u1, f1⟩ := kv.at_ 1 (x := .slice v5 m c5) rfl
    have hgw := kv.lt
    have hsw := hon.size
    obtain ⟨A, cc, he, -, -, -, hr⟩ := HRW.out.h
    injection he with ee1 ee3 ee2
    subst ee1 ee2
    clear ee3
    by_cases hlt : k < B.h.length
    · obtain ⟨b, o, rfl, hb, hcell⟩ := hr (by omega)
      obtain ⟨e, hek, hx0, hx1⟩ := p2_at (fun j u hu => (World.cell?_of_block (a := ⟨b, o + j, none⟩) (hon.block b (by omega) (by simp; omega))).trans ((HZZ.out.2.2.2.cell (p := ⟨b, o + j, none⟩) hb).trans (hcell j u hu))) hlt
      obtain ⟨ea, eb⟩ := e
      simp only at hx0 hx1
      have hbw : b < wr.heap.size := by omega
      clear hcell hr
      by_cases hsame : ea = t ∧ eb = x
      · have HT := Lib.hid (dropTo_no hek.out hsame)
        have hq1 : (ea != t) = false := by simp [hsame.1]
        have hq2 : (eb != x) = false := by simp [hsame.2]
        clear hsame
        go_wp2_with fail
        exact ⟨⟨k + 1, m, _, by omega, by omega, by go_num, by rw [HT.out]; exact hO, kv, hon⟩, by simp [intOf]; omega⟩
      · have HF : Hid (flc2 (dropTo B t x k) ++ [.int .i64 ea, .int .i64 eb] = flc2 (dropTo B t x (k + 1))) := Lib.hid (by rw [dropTo_yes hek.out hsame, flc2_append]; rfl)
        have p1 := fun q : Past wr => Past.cell hgw u1 q
        have p2 := fun q : Past wr => Past.cell kbw.lt t1 q
        have p3 := fun q : Past wr => Past.cell hbw hx0 q
        have p4 := fun q : Past wr => Past.cell hbw hx1 q
        have hc2 : ((ea != t) = true) ∨ ((ea != t) = false ∧ (eb != x) = true) := by
          by_cases h1 : ea = t
          · exact .inr ⟨by simp [h1], by simp; exact fun h2 => hsame ⟨h1, h2⟩⟩
          · exact .inl (by simp [h1])
        clear hsame u1 f1
        rcases hc2 with e1 | ⟨e1, e2⟩
        all_goals
          go_wp2_with fail
          clear t1
          refine wp_region_two 8 8 (fun w' => ∃ q : Past wr, w' = q.v) (fun _ => True) (by kernel_rfl) ?_
          obtain ⟨w0, hw0⟩ : ∃ w0, w0 = wr.drew := ⟨_, rfl⟩
          have T0 : Hid (Below wr.heap.size wr w0) := Lib.hid (by rw [hw0]; exact (Below.refl _ _).drew)
          rw [← hw0]
          clear hw0
          refine wpAnyX_pass (C := (fun w' => ∃ q : Past wr, w' = q.v)) (some false) [true, true, true, true, true, true, true] rfl (by kernel_rfl) (fun _ _ t _ _ h => by cases t <;> exact h) ⟨fun _ => ⟨⟨w0, T0.out⟩, rfl⟩, fun _ => trivial⟩ ?_
          simp only [keepOps]
          repeat (go_big_quiet_step (fail))
          refine wpQuiet_nil ?_
          clear p1 p2 p3 p4
          refine wpAnyX_one 7 rfl (by kernel_rfl) (by kernel_rfl) ?_
          go_wp2_with fail
          obtain ⟨wA, hwA⟩ : ∃ wA, wA = w0.alloc (.cells #[.int .i64 ea, .int .i64 eb] 92) := ⟨_, rfl⟩
          have TA : Hid (Below wr.heap.size wr wA) := Lib.hid (by rw [hwA]; exact T0.out.alloc T0.out.size _)
          have hOA := (ownsRow_below hO T0.out).alloc (.cells #[.int .i64 ea, .int .i64 eb] 92)
          have kvA := (kv.below T0.out kv.lt).alloc (.cells #[.int .i64 ea, .int .i64 eb] 92)
          have hNC := new_cells w0 [.int .i64 ea, .int .i64 eb] 92
          have hsA := TA.out.size
          have hs0 : w0.heap.size < wA.heap.size := by rw [hwA]; simp
          rw [show ([.int .i64 ea, .int .i64 eb] : List Value).toArray = #[.int .i64 ea, .int .i64 eb] from rfl, ← hwA] at hNC
          rw [← hwA] at hOA kvA
          rw [← hwA]
          clear hwA
          refine ⟨⟨fun _ => ⟨⟨wA, TA.out⟩, rfl⟩, fun _ => trivial⟩, ?_⟩
          refine wpAnyX_one 8 rfl (by kernel_rfl) (by kernel_rfl) ?_
          refine wpList_append_own _ rfl _ _ 29 rfl wz.heap.size 92 i (.agg #[.int .i64 0, .int .i64 0]) 2 16 Try.underlying29 hi hiz0 hiz1 hiz2 rfl (by decide) _ _ _ rfl hOA ⟨w0.heap.size, 0, none⟩ 1 1 [.int .i64 ea, .int .i64 eb] rfl rfl hNC (by simp [Value.oneCell']) (by unfold maxLen; omega) (by omega) (by omega) ?_
          intro v9 w9 hO9 hg9 _
          obtain ⟨A9, c9, rfl⟩ := owns_form' hO9
          have k9 := kvA.grown hg9 (fun j hj => by have := (hOA.lt j hj).1; omega)
          have hb9 : Below wz.heap.size wr w9 := (TA.out.mono hsw).grown hg9 (by omega) (fun j hj => by have := (hOA.lt j hj).1; omega)
          obtain ⟨y1, x1⟩ := k9.at_ 1 (x := .slice v5 m c5) rfl
          rw [HF.out] at hO9
          have HFIN := Lib.hid (And.intro hO9 (And.intro k9 (hon.then_below hb9)))
          clear hO9 k9 hb9 hg9 hOA kvA hNC hO kv hon
          go_wp2_with fail
          refine ⟨⟨fun h => absurd (show true = false from h) (by decide), fun _ => trivial⟩, ?_⟩
          refine wpAnyX_pass (C := (fun _ => True)) none [false, false, false, false, false, false, false, false, false, true] rfl (by kernel_rfl) (fun _ _ t _ _ h => by cases t <;> exact h) ⟨fun h => absurd (show true = false from h) (by decide), fun _ => trivial⟩ ?_
          simp only [keepOps]
          repeat (go_big_quiet_step (fail))
          refine wpQuiet_nil ?_
          refine wpAnyX_one 10 rfl (by kernel_rfl) (by kernel_rfl) ?_
          go_wp2_with fail
          refine ⟨⟨fun h => absurd (show true = false from h) (by decide), fun _ => trivial⟩, ?_⟩
          refine wpAnyX_done (by kernel_rfl) ?_
          try dsimp only
          go_wp2_with fail
          obtain ⟨hO9, k9, hon9⟩ := HFIN.out
          exact ⟨⟨k + 1, m + 1, _, by omega, by omega, by go_num, owns_far' hO9 hgz _, k9.set_ 1 _, hon9.trans (Only.setCell _ _)⟩, by simp [intOf]; omega⟩
    · obtain rfl : k = B.h.length := by omega
      have hd := dropTo_all (B := B) (t := t) (x := x) HY.out.1
      rw [hd] at hO
      have hmm := hO.1
      rw [flc2_len] at hmm
      obtain rfl : m = (dropBn B t x).h.length := by omega
      have hz9 := HZZ.out
      have hO3 := hz9.1.only1 HN1.out hon
      have r4 := hz9.2.2.1.only hon (by simp; omega)
      have hB4 := hz9.2.2.2.trans (hon.below (B := w.heap.size) hwsz (by simp; omega))
      have hO4 : OwnBT wr W0.heap.size (.slice D1 B.l.length d1) (.slice v5 (dropBn B t x).h.length c5) (.slice D3 B.w.length d3) (.slice D4 B.f.length d4) (dropBn B t x) := ⟨by rw [HY.out.1]; exact hO3.l, owns_mono hO (by omega), by rw [HY.out.1]; exact hO3.q, by rw [HY.out.1]; exact hO3.f,
        fun k hk e => by have := hO.lt k e; have := hz9.1.l.lt k hk; omega, hO3.ac, hO3.ad, fun k hk e => by have := hO.lt k hk; have := hz9.1.q.lt k e; omega, fun k hk e => by have := hO.lt k hk; have := hz9.1.f.lt k e; omega, hO3.cd⟩
      have HFIN := Lib.hid (And.intro r4 (And.intro hO4 hB4))
      obtain ⟨g0, gf0⟩ := kv.at_ 0 (x := .slice D1 B.l.length d1) rfl
      obtain ⟨g1, gf1⟩ := kv.at_ 1 (x := .slice v5 (dropBn B t x).h.length c5) rfl
      obtain ⟨g2, gf2⟩ := kv.at_ 2 (x := .slice D3 B.w.length d3) rfl
      obtain ⟨g3, gf3⟩ := kv.at_ 3 (x := .slice D4 B.f.length d4) rfl
      obtain ⟨g4, gf4⟩ := kv.at_ 4 (x := .int .i64 B.n) rfl
      obtain ⟨h0, hf0⟩ := r4.at_ 0 (x := .slice none 0 0) rfl
      obtain ⟨h1, hf1⟩ := r4.at_ 1 (x := .slice none 0 0) rfl
      obtain ⟨h2, hf2⟩ := r4.at_ 2 (x := .slice none 0 0) rfl
      obtain ⟨h3, hf3⟩ := r4.at_ 3 (x := .slice none 0 0) rfl
      obtain ⟨h4, hf4⟩ := r4.at_ 4 (x := .int .i64 0) rfl
      clear r4 hO4 hB4 hO3 hz9 hO kv hon kbw hr u1 f1 hd hmm hk hm hlt hsw
      go_wp2_with fail
      obtain ⟨r4, hO4, hB4⟩ := HFIN.out
      have qF := r4.set5 (.slice D1 B.l.length d1) (.slice v5 (dropBn B t x).h.length c5) (.slice D3 B.w.length d3) (.slice D4 B.f.length d4) (.int .i64 B.n)
      obtain ⟨zz0, -⟩ := qF.at_ 0 (x := .slice D1 B.l.length d1) rfl
      obtain ⟨zz1, -⟩ := qF.at_ 1 (x := .slice v5 (dropBn B t x).h.length c5) rfl
      obtain ⟨zz2, -⟩ := qF.at_ 2 (x := .slice D3 B.w.length d3) rfl
      obtain ⟨zz3, -⟩ := qF.at_ 3 (x := .slice D4 B.f.length d4) rfl
      obtain ⟨zz4, -⟩ := qF.at_ 4 (x := .int .i64 B.n) rfl
      refine bodyPost_ret (v := .tuple #[.agg #[.slice D1 B.l.length d1, .slice v5 (dropBn B t x).h.length c5, .slice D3 B.w.length d3, .slice D4 B.f.length d4, .int .i64 B.n], .bool true]) (by simp [results, Try.results52, go_sem, zz0, zz1, zz2, zz3, zz4]) rfl ?_
      have hR := (hO4.only1 (hO4.neLow (by omega)) (only_set5 _ (w.heap.size + 1) (.slice D1 B.l.length d1) (.slice v5 (dropBn B t x).h.length c5) (.slice D3 B.w.length d3) (.slice D4 B.f.length d4) (.int .i64 B.n))).ret (w := w) (x := .bool true) (by omega) (below_set5 hB4 (Nat.le_succ _) (.slice D1 B.l.length d1) (.slice v5 (dropBn B t x).h.length c5) (.slice D3 B.w.length d3) (.slice D4 B.f.length d4) (.int .i64 B.n))
      rw [show (dropBn B t x).n = B.n by rw [HY.out.1]] at hR
      rw [HY.out.2]
      exact hR
end Go.Proofs.Ytiamkgkhamnaeaa
