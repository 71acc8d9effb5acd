/- Contract of FreeSome (package spec). Conditions: the bench's rows and the list can be read; lengths that a law bounds. -/
import Derived.Test.YtiamkgkhamnaeaaN22
namespace Go.Proofs.Ytiamkgkhamnaeaa
set_option maxRecDepth 20000
set_option linter.unusedSimpArgs false
set_option linter.unusedVariables false
open Go.ChangeShapes Go.WideShapes Go.ChangeAt Go.RowKit
set_option linter.unusedVariables false
theorem OwnBT.setQ {w w' : World} {lo : Nat} {a b c d v : Value} {B B' : Bn} (h : OwnBT w lo a b c d B) (h9 : w'.ownsRow lo 3 1 v B'.w.length (ints B'.w)) (hv : ∀ k, v.ownBlock = some k → w.heap.size ≤ k) (hb : Below w.heap.size w w') (e1 : B'.l = B.l) (e2 : B'.h = B.h) (e3 : B'.f = B.f) :
    OwnBT w' lo a b v d B' :=
  ⟨by rw [e1]; exact ownsRow_below h.l hb, by rw [e2]; exact ownsRow_below h.h hb, h9, by rw [e3]; exact ownsRow_below h.f hb, h.ab, fun k hk e => by have := hv k e; have := h.l.lt k hk; omega, h.ad, fun k hk e => by have := hv k e; have := h.h.lt k hk; omega, h.bd, fun k hk e => by have := hv k hk; have := h.f.lt k e; omega⟩
theorem free_cnt (B : Bn) (l : List Int) : cntBn (freeBn B l) ≤ cntBn B := by
  cases hb : bnOk B
  · rw [(free_no (.inl hb)).1]
    exact Nat.le_refl _
  · cases ht : takeAll B.w l with
    | none =>
      rw [(free_no (.inr ht)).1]
      exact Nat.le_refl _
    | some wf =>
      have h1 := takeAll_len ht
      rw [(free_yes hb ht).1]
      unfold cntBn
      simp
      omega
theorem free_long {B : Bn} {l : List Int} (h : 60 < l.length) : freeBn B l = B ∧ freeOk B l = false := by
  cases hb : bnOk B
  · exact free_no (.inl hb)
  · cases ht : takeAll B.w l
    · exact free_no (.inr ht)
    · have h1 := takeAll_len ht
      have h2 := bnOk_small (bnOk_iff.1 hb)
      omega
set_option maxHeartbeats 3200000 in
theorem spec_FreeSome (a b c d : Value) (B : Bn) (u : Value) (l : List Int) (w : World) (r : RdBn w a b c d B) (hu : Rd w u 1 l.length (ints l)) (hul : l.length ≤ 16777215) (hsz : szBn B ≤ 16777215) :
    Calls Try.prog 91 #[.agg #[a, b, c, d, .int .i64 B.n], u] w (RetBnV (freeBn B l) (.bool (freeOk B l)) w) := by
  obtain ⟨A1, c1, A2, c2, A3, c3, A4, c4, ⟨rfl, rfl, rfl, rfl⟩, -, -⟩ := r.slices
  obtain ⟨i, hi, hiz0, hiz1, hiz2⟩ := info_parts infoInt
  obtain ⟨Au, cu, rfl, -, hunc, huc, hur⟩ := hu
  unfold maxLen at huc
  have hll : (B.l.length ≤ 16777215 ∧ B.h.length ≤ 16777215) ∧ B.w.length ≤ 16777215 ∧ B.f.length ≤ 16777215 := by unfold szBn at hsz; omega
  obtain ⟨W0, hW0⟩ : ∃ W0, W0 = (w.alloc (.cells #[.slice A1 B.l.length c1, .slice A2 B.h.length c2, .slice A3 B.w.length c3, .slice A4 B.f.length c4, .int .i64 B.n] 31)).alloc (.cells #[.slice none 0 0, .slice none 0 0, .slice none 0 0, .slice none 0 0, .int .i64 0] 31) := ⟨_, rfl⟩
  have hB0 := ((Below.refl w.heap.size w).alloc (Nat.le_refl _) (.cells #[.slice A1 B.l.length c1, .slice A2 B.h.length c2, .slice A3 B.w.length c3, .slice A4 B.f.length c4, .int .i64 B.n] 31)).alloc (by simp) (.cells #[.slice none 0 0, .slice none 0 0, .slice none 0 0, .slice none 0 0, .int .i64 0] 31)
  have k0 := (Bk.new w #[.slice A1 B.l.length c1, .slice A2 B.h.length c2, .slice A3 B.w.length c3, .slice A4 B.f.length c4, .int .i64 B.n] 31).alloc (.cells #[.slice none 0 0, .slice none 0 0, .slice none 0 0, .slice none 0 0, .int .i64 0] 31)
  have r0 := Bk.new (w.alloc (.cells #[.slice A1 B.l.length c1, .slice A2 B.h.length c2, .slice A3 B.w.length c3, .slice A4 B.f.length c4, .int .i64 B.n] 31)) #[.slice none 0 0, .slice none 0 0, .slice none 0 0, .slice none 0 0, .int .i64 0] 31
  simp only [World.size_alloc] at r0
  have hs0 : W0.heap.size = w.heap.size + 2 := by rw [hW0]; simp
  rw [← hW0] at hB0 k0 r0
  have HBO := Lib.hid (spec_BenchOk _ _ _ _ B W0 (r.below hB0) (by omega))
  have HRW := Lib.hid r
  have HSZ := Lib.hid hsz
  have HW0 := Lib.hid hW0
  have hz0 : w.heap.size + 2 ≤ W0.heap.size := by omega
  have HB0 := Lib.hid hB0
  have HUR : Hid (∀ W : World, Below w.heap.size w W → 0 < l.length → ∃ b o, Au = some ⟨b, o, none⟩ ∧ b < W.heap.size ∧ ∀ j x, (ints l)[j]? = some x → W.cell? ⟨b, o + j, none⟩ = some x) := Lib.hid (fun W hW hp => by
    obtain ⟨b, o, he, hb, hc⟩ := hur hp
    exact ⟨b, o, he, Nat.lt_of_lt_of_le hb hW.size, fun j x hx => (hW.cell (p := ⟨b, o + j, none⟩) hb).trans (hc j x hx)⟩)
  obtain ⟨t0, -⟩ := k0.at_ 0 (x := .slice A1 B.l.length c1) rfl
  obtain ⟨t1, -⟩ := k0.at_ 1 (x := .slice A2 B.h.length c2) rfl
  obtain ⟨t2, -⟩ := k0.at_ 2 (x := .slice A3 B.w.length c3) rfl
  obtain ⟨t3, -⟩ := k0.at_ 3 (x := .slice A4 B.f.length c4) rfl
  obtain ⟨t4, -⟩ := k0.at_ 4 (x := .int .i64 B.n) rfl
  clear hW0 hs0 hB0 r hsz hur
  by_cases hlong : 60 < l.length
  · have HNO := Lib.hid (free_long (B := B) hlong)
    have hlg : (60 : Int) < l.length := by omega
    cases hok : bnOk B
    all_goals
      rw [hok] at HBO
      clear hok
      go_enter Try.func91, Try.ntmps91
      go_wp2_with (first
    | (go_at_call 35; rw [← HW0.out]; refine HBO.out.mono ?_; rintro e w1 ⟨rfl, hb1⟩; have k1 := k0.below hb1 k0.lt; have r1 := r0.below hb1 r0.lt; have hB1 := HB0.out.trans (hb1.mono HB0.out.size); have hz1 := hb1.size; obtain ⟨s0, sf0⟩ := k1.at_ 0 (x := .slice A1 B.l.length c1) rfl; obtain ⟨s1, sf1⟩ := k1.at_ 1 (x := .slice A2 B.h.length c2) rfl; obtain ⟨s2, sf2⟩ := k1.at_ 2 (x := .slice A3 B.w.length c3) rfl; obtain ⟨s3, sf3⟩ := k1.at_ 3 (x := .slice A4 B.f.length c4) rfl; obtain ⟨s4, sf4⟩ := k1.at_ 4 (x := .int .i64 B.n) rfl)
    | (go_at_call 49; refine (l09CopyT _ _ _ _ B w1 (HRW.out.below hB1) (by have := HSZ.out; omega)).mono ?_; rintro e w2 ⟨u1, u2, u3, u4, rfl, hO2, hb2⟩; obtain ⟨D1, d1, rfl⟩ := owns_form' hO2.l; obtain ⟨D2, d2, rfl⟩ := owns_form' hO2.h; obtain ⟨D3, d3, rfl⟩ := owns_form' hO2.q; obtain ⟨D4, d4, rfl⟩ := owns_form' hO2.f; have k2 := k1.below hb2 k1.lt; have r2 := r1.below hb2 r1.lt; have hB2 := hB1.trans (hb2.mono hB1.size); have hz2 := hb2.size; obtain ⟨f0, ff0⟩ := r2.at_ 0 (x := .slice none 0 0) rfl; obtain ⟨f1, ff1⟩ := r2.at_ 1 (x := .slice none 0 0) rfl; obtain ⟨f2, ff2⟩ := r2.at_ 2 (x := .slice none 0 0) rfl; obtain ⟨f3, ff3⟩ := r2.at_ 3 (x := .slice none 0 0) rfl; obtain ⟨f4, ff4⟩ := r2.at_ 4 (x := .int .i64 0) rfl))
      have qF := r2.set5 (.slice D1 B.l.length d1) (.slice D2 B.h.length d2) (.slice D3 B.w.length d3) (.slice D4 B.f.length d4) (.int .i64 B.n)
      obtain ⟨zz0, -⟩ := qF.at_ 0 (x := .slice D1 B.l.length d1) rfl
      obtain ⟨zz1, -⟩ := qF.at_ 1 (x := .slice D2 B.h.length d2) rfl
      obtain ⟨zz2, -⟩ := qF.at_ 2 (x := .slice D3 B.w.length d3) rfl
      obtain ⟨zz3, -⟩ := qF.at_ 3 (x := .slice D4 B.f.length d4) rfl
      obtain ⟨zz4, -⟩ := qF.at_ 4 (x := .int .i64 B.n) rfl
      refine bodyPost_ret (v := .tuple #[.agg #[.slice D1 B.l.length d1, .slice D2 B.h.length d2, .slice D3 B.w.length d3, .slice D4 B.f.length d4, .int .i64 B.n], .bool false]) (by simp [results, Try.results91, go_sem, zz0, zz1, zz2, zz3, zz4]) rfl ?_
      have hR := (hO2.only1 (hO2.neLow (by omega)) (only_set5 _ (w.heap.size + 1) (.slice D1 B.l.length d1) (.slice D2 B.h.length d2) (.slice D3 B.w.length d3) (.slice D4 B.f.length d4) (.int .i64 B.n))).ret (w := w) (x := .bool false) (by omega) (below_set5 hB2 (Nat.le_succ _) (.slice D1 B.l.length d1) (.slice D2 B.h.length d2) (.slice D3 B.w.length d3) (.slice D4 B.f.length d4) (.int .i64 B.n))
      rw [HNO.out.1, HNO.out.2]
      exact hR
  cases hok : bnOk B
  · have HNO := Lib.hid (free_no (B := B) (l := l) (.inl hok))
    rw [hok] at HBO
    clear hok
    go_enter Try.func91, Try.ntmps91
    go_wp2_with (first
    | (go_at_call 35; rw [← HW0.out]; refine HBO.out.mono ?_; rintro e w1 ⟨rfl, hb1⟩; have k1 := k0.below hb1 k0.lt; have r1 := r0.below hb1 r0.lt; have hB1 := HB0.out.trans (hb1.mono HB0.out.size); have hz1 := hb1.size; obtain ⟨s0, sf0⟩ := k1.at_ 0 (x := .slice A1 B.l.length c1) rfl; obtain ⟨s1, sf1⟩ := k1.at_ 1 (x := .slice A2 B.h.length c2) rfl; obtain ⟨s2, sf2⟩ := k1.at_ 2 (x := .slice A3 B.w.length c3) rfl; obtain ⟨s3, sf3⟩ := k1.at_ 3 (x := .slice A4 B.f.length c4) rfl; obtain ⟨s4, sf4⟩ := k1.at_ 4 (x := .int .i64 B.n) rfl)
    | (go_at_call 49; refine (l09CopyT _ _ _ _ B w1 (HRW.out.below hB1) (by have := HSZ.out; omega)).mono ?_; rintro e w2 ⟨u1, u2, u3, u4, rfl, hO2, hb2⟩; obtain ⟨D1, d1, rfl⟩ := owns_form' hO2.l; obtain ⟨D2, d2, rfl⟩ := owns_form' hO2.h; obtain ⟨D3, d3, rfl⟩ := owns_form' hO2.q; obtain ⟨D4, d4, rfl⟩ := owns_form' hO2.f; have k2 := k1.below hb2 k1.lt; have r2 := r1.below hb2 r1.lt; have hB2 := hB1.trans (hb2.mono hB1.size); have hz2 := hb2.size; obtain ⟨f0, ff0⟩ := r2.at_ 0 (x := .slice none 0 0) rfl; obtain ⟨f1, ff1⟩ := r2.at_ 1 (x := .slice none 0 0) rfl; obtain ⟨f2, ff2⟩ := r2.at_ 2 (x := .slice none 0 0) rfl; obtain ⟨f3, ff3⟩ := r2.at_ 3 (x := .slice none 0 0) rfl; obtain ⟨f4, ff4⟩ := r2.at_ 4 (x := .int .i64 0) rfl))
    have qF := r2.set5 (.slice D1 B.l.length d1) (.slice D2 B.h.length d2) (.slice D3 B.w.length d3) (.slice D4 B.f.length d4) (.int .i64 B.n)
    obtain ⟨zz0, -⟩ := qF.at_ 0 (x := .slice D1 B.l.length d1) rfl
    obtain ⟨zz1, -⟩ := qF.at_ 1 (x := .slice D2 B.h.length d2) rfl
    obtain ⟨zz2, -⟩ := qF.at_ 2 (x := .slice D3 B.w.length d3) rfl
    obtain ⟨zz3, -⟩ := qF.at_ 3 (x := .slice D4 B.f.length d4) rfl
    obtain ⟨zz4, -⟩ := qF.at_ 4 (x := .int .i64 B.n) rfl
    refine bodyPost_ret (v := .tuple #[.agg #[.slice D1 B.l.length d1, .slice D2 B.h.length d2, .slice D3 B.w.length d3, .slice D4 B.f.length d4, .int .i64 B.n], .bool false]) (by simp [results, Try.results91, go_sem, zz0, zz1, zz2, zz3, zz4]) rfl ?_
    have hR := (hO2.only1 (hO2.neLow (by omega)) (only_set5 _ (w.heap.size + 1) (.slice D1 B.l.length d1) (.slice D2 B.h.length d2) (.slice D3 B.w.length d3) (.slice D4 B.f.length d4) (.int .i64 B.n))).ret (w := w) (x := .bool false) (by omega) (below_set5 hB2 (Nat.le_succ _) (.slice D1 B.l.length d1) (.slice D2 B.h.length d2) (.slice D3 B.w.length d3) (.slice D4 B.f.length d4) (.int .i64 B.n))
    rw [HNO.out.1, HNO.out.2]
    exact hR
  rw [hok] at HBO
  have HOK := Lib.hid hok
  clear hok
  have hlg : ¬ (60 : Int) < l.length := by omega
  go_enter Try.func91, Try.ntmps91
  go_upto_region 4 with (first
    | (go_at_call 35; rw [← HW0.out]; refine HBO.out.mono ?_; rintro e w1 ⟨rfl, hb1⟩; have k1 := k0.below hb1 k0.lt; have r1 := r0.below hb1 r0.lt; have hB1 := HB0.out.trans (hb1.mono HB0.out.size); have hz1 := hb1.size; obtain ⟨s0, sf0⟩ := k1.at_ 0 (x := .slice A1 B.l.length c1) rfl; obtain ⟨s1, sf1⟩ := k1.at_ 1 (x := .slice A2 B.h.length c2) rfl; obtain ⟨s2, sf2⟩ := k1.at_ 2 (x := .slice A3 B.w.length c3) rfl; obtain ⟨s3, sf3⟩ := k1.at_ 3 (x := .slice A4 B.f.length c4) rfl; obtain ⟨s4, sf4⟩ := k1.at_ 4 (x := .int .i64 B.n) rfl)
    | (go_at_call 49; refine (l09CopyT _ _ _ _ B w1 (HRW.out.below hB1) (by have := HSZ.out; omega)).mono ?_; rintro e w2 ⟨u1, u2, u3, u4, rfl, hO2, hb2⟩; obtain ⟨D1, d1, rfl⟩ := owns_form' hO2.l; obtain ⟨D2, d2, rfl⟩ := owns_form' hO2.h; obtain ⟨D3, d3, rfl⟩ := owns_form' hO2.q; obtain ⟨D4, d4, rfl⟩ := owns_form' hO2.f; have k2 := k1.below hb2 k1.lt; have r2 := r1.below hb2 r1.lt; have hB2 := hB1.trans (hb2.mono hB1.size); have hz2 := hb2.size; obtain ⟨f0, ff0⟩ := r2.at_ 0 (x := .slice none 0 0) rfl; obtain ⟨f1, ff1⟩ := r2.at_ 1 (x := .slice none 0 0) rfl; obtain ⟨f2, ff2⟩ := r2.at_ 2 (x := .slice none 0 0) rfl; obtain ⟨f3, ff3⟩ := r2.at_ 3 (x := .slice none 0 0) rfl; obtain ⟨f4, ff4⟩ := r2.at_ 4 (x := .int .i64 0) rfl))
  obtain ⟨W3, hW3⟩ : ∃ W3, W3 = w2.alloc (.cells #[.slice D1 B.l.length d1, .slice D2 B.h.length d2, .slice D3 B.w.length d3, .slice D4 B.f.length d4, .int .i64 B.n] 31) := ⟨_, rfl⟩
  have k3 := k2.alloc (.cells #[.slice D1 B.l.length d1, .slice D2 B.h.length d2, .slice D3 B.w.length d3, .slice D4 B.f.length d4, .int .i64 B.n] 31)
  have r3 := r2.alloc (.cells #[.slice D1 B.l.length d1, .slice D2 B.h.length d2, .slice D3 B.w.length d3, .slice D4 B.f.length d4, .int .i64 B.n] 31)
  have q3 := Bk.new w2 #[.slice D1 B.l.length d1, .slice D2 B.h.length d2, .slice D3 B.w.length d3, .slice D4 B.f.length d4, .int .i64 B.n] 31
  have hO3 := hO2.below ((Below.refl _ _).alloc (Nat.le_refl _) (.cells #[.slice D1 B.l.length d1, .slice D2 B.h.length d2, .slice D3 B.w.length d3, .slice D4 B.f.length d4, .int .i64 B.n] 31))
  have hB3 := hB2.alloc hB2.size (.cells #[.slice D1 B.l.length d1, .slice D2 B.h.length d2, .slice D3 B.w.length d3, .slice D4 B.f.length d4, .int .i64 B.n] 31)
  rw [← hW3] at k3 r3 q3 hO3 hB3 ⊢
  have HST := Lib.hid (And.intro q3 (And.intro k3 (And.intro r3 (And.intro hO3 (And.intro (hO2.neHigh (g := w2.heap.size) (Nat.le_refl _)) (And.intro hB3 (show w1.heap.size ≤ W3.heap.size by rw [hW3]; simp; omega)))))))
  have HK1 := Lib.hid k1
  clear hW3 k1 r1 k2 r2 k3 r3 q3 hO2 hO3 hB2 hB3 hb1 hb2 k0 r0 t0 t1 t2 t3 t4 s0 s1 s2 s3 s4 sf0 sf1 sf2 sf3 sf4 f0 f1 f2 f3 f4 ff0 ff1 ff2 ff3 ff4 hlg HBO
  go_wp2_with fail
  go_loopw [7] (fun iv wr => ∃ (k : Nat) (wk : List Int) (E3 : Option Addr) (e3 : Nat) (E4 : Option Addr) (e4 cw cf : Nat), k ≤ l.length ∧ iv = .int .i64 k ∧ cw ≤ B.w.length ∧ cf ≤ B.f.length + l.length ∧ Hid (takeAll B.w (l.take k) = some wk ∧ wk.length = cw ∧ (B.f ++ l.take k).length = cf) ∧ Hid (Bk wr w2.heap.size #[.slice D1 B.l.length d1, .slice D2 B.h.length d2, .slice E3 cw e3, .slice E4 cf e4, .int .i64 B.n] 31 ∧ Bk wr w.heap.size #[.slice A1 B.l.length c1, .slice A2 B.h.length c2, .slice A3 B.w.length c3, .slice A4 B.f.length c4, .int .i64 B.n] 31 ∧ Bk wr (w.heap.size + 1) #[.slice none 0 0, .slice none 0 0, .slice none 0 0, .slice none 0 0, .int .i64 0] 31 ∧ OwnBT wr w1.heap.size (.slice D1 B.l.length d1) (.slice D2 B.h.length d2) (.slice E3 cw e3) (.slice E4 cf e4) { B with w := wk, f := B.f ++ l.take k } ∧ NeB w2.heap.size (.slice D1 B.l.length d1) (.slice D2 B.h.length d2) (.slice E3 cw e3) (.slice E4 cf e4) ∧ Below w.heap.size w wr ∧ w1.heap.size ≤ wr.heap.size)) (fun iv _ => l.length - (intOf iv).toNat)
  case atStart => exact ⟨0, B.w, D3, d3, D4, d4, B.w.length, B.f.length, Nat.zero_le _, rfl, Nat.le_refl _, by omega, Lib.hid ⟨rfl, rfl, by simp⟩, Lib.hid (by simpa using HST.out)⟩
  case round =>
    obtain ⟨k, wk, E3, e3, E4, e4, cw, cf, hk, rfl, hcw, hcf, HT, HI⟩ := hrel
    clear HST
    by_cases hlt : k < l.length
    · obtain ⟨b, o, rfl, hb, hcell⟩ := HUR.out _ HI.out.2.2.2.2.2.1 (by omega)
      obtain ⟨x, hxk, hx⟩ := int_at hcell hlt
      have hrd : Hid (Rd wr (.slice E3 cw e3) 1 wk.length (ints wk)) := Lib.hid (by
        obtain ⟨bs, hown, -⟩ := own_of_typed HI.out.2.2.2.1.q
        exact hown.rd)
      obtain ⟨a2, af2⟩ := HI.out.1.at_ 2 (x := .slice E3 cw e3) rfl
      obtain ⟨vm, hvm⟩ : ∃ vm, wk.any (· == x) = vm := ⟨_, rfl⟩
      have HV := Lib.hid hvm
      have HQH : Hid (∀ n : Nat, Calls Try.prog 67 #[.slice E3 cw e3, .int .i64 x] (wr.drewN n) fun e w' => e = .returned (.bool vm) ∧ ∃ m, w' = (wr.drewN n).drewN m) := Lib.hid (fun n => by
        have h := l01Has _ wk x (wr.drewN n) (hrd.out.below (below_more (Below.refl _ wr) n))
        rw [HV.out] at h
        exact h.mono fun e w' h => ⟨h.1, 0, h.2.symm⟩)
      clear hvm hcell
      cases vm
      · have HNO := Lib.hid (free_no (B := B) (l := l) (.inr (takeAll_no HT.out.1 hxk.out HV.out)))
        have k4 := HI.out.2.1
        have r4 := HI.out.2.2.1
        have hB4 := HI.out.2.2.2.2.2.1
        have hz4 := hB4.size
        have hz5 := HI.out.2.2.2.2.2.2
        obtain ⟨n0, -⟩ := k4.at_ 0 (x := .slice A1 B.l.length c1) rfl
        obtain ⟨n1, -⟩ := k4.at_ 1 (x := .slice A2 B.h.length c2) rfl
        obtain ⟨n2, -⟩ := k4.at_ 2 (x := .slice A3 B.w.length c3) rfl
        obtain ⟨n3, -⟩ := k4.at_ 3 (x := .slice A4 B.f.length c4) rfl
        obtain ⟨n4, -⟩ := k4.at_ 4 (x := .int .i64 B.n) rfl
        have HCP : Hid (∀ n : Nat, Calls Try.prog 49 #[.agg #[.slice A1 B.l.length c1, .slice A2 B.h.length c2, .slice A3 B.w.length c3, .slice A4 B.f.length c4, .int .i64 B.n]] (wr.drewN n) fun e w' => ∃ a b c d, e = .returned (.agg #[a, b, c, d, .int .i64 B.n]) ∧ OwnBT w' wr.heap.size a b c d B ∧ Below w.heap.size w w' ∧ Bk w' (w.heap.size + 1) #[.slice none 0 0, .slice none 0 0, .slice none 0 0, .slice none 0 0, .int .i64 0] 31) := Lib.hid (fun n => by
          refine (l09CopyT _ _ _ _ B _ (HRW.out.below (below_more hB4 n)) (by have := HSZ.out; omega)).mono ?_
          rintro e w6 ⟨u1, u2, u3, u4, rfl, hO6, hb6⟩
          exact ⟨u1, u2, u3, u4, rfl, hO6, (below_more hB4 n).trans (hb6.mono (below_more hB4 n).size), (r4.below (below_drewN wr n) r4.lt).below hb6 r4.lt⟩)
        go_wp2_with fail
        go_quiet ((go_at_call 67; exact Calls.quiet_of (HQH.out _)))
        go_wp2_with (go_at_call 49; refine (HCP.out _).mono ?_; rintro e w6 ⟨u1, u2, u3, u4, rfl, hO6, hB6, r6⟩; obtain ⟨D1, d1, rfl⟩ := owns_form' hO6.l; obtain ⟨D2, d2, rfl⟩ := owns_form' hO6.h; obtain ⟨D3, d3, rfl⟩ := owns_form' hO6.q; obtain ⟨D4, d4, rfl⟩ := owns_form' hO6.f; obtain ⟨f0, ff0⟩ := r6.at_ 0 (x := .slice none 0 0) rfl; obtain ⟨f1, ff1⟩ := r6.at_ 1 (x := .slice none 0 0) rfl; obtain ⟨f2, ff2⟩ := r6.at_ 2 (x := .slice none 0 0) rfl; obtain ⟨f3, ff3⟩ := r6.at_ 3 (x := .slice none 0 0) rfl; obtain ⟨f4, ff4⟩ := r6.at_ 4 (x := .int .i64 0) rfl)
        have qF := r6.set5 (.slice D1 B.l.length d1) (.slice D2 B.h.length d2) (.slice D3 B.w.length d3) (.slice D4 B.f.length d4) (.int .i64 B.n)
        obtain ⟨zz0, -⟩ := qF.at_ 0 (x := .slice D1 B.l.length d1) rfl
        obtain ⟨zz1, -⟩ := qF.at_ 1 (x := .slice D2 B.h.length d2) rfl
        obtain ⟨zz2, -⟩ := qF.at_ 2 (x := .slice D3 B.w.length d3) rfl
        obtain ⟨zz3, -⟩ := qF.at_ 3 (x := .slice D4 B.f.length d4) rfl
        obtain ⟨zz4, -⟩ := qF.at_ 4 (x := .int .i64 B.n) rfl
        refine bodyPost_ret (v := .tuple #[.agg #[.slice D1 B.l.length d1, .slice D2 B.h.length d2, .slice D3 B.w.length d3, .slice D4 B.f.length d4, .int .i64 B.n], .bool false]) (by simp [results, Try.results91, go_sem, zz0, zz1, zz2, zz3, zz4]) rfl ?_
        have hR := (hO6.only1 (hO6.neLow (by omega)) (only_set5 _ (w.heap.size + 1) (.slice D1 B.l.length d1) (.slice D2 B.h.length d2) (.slice D3 B.w.length d3) (.slice D4 B.f.length d4) (.int .i64 B.n))).ret (w := w) (x := .bool false) (by omega) (below_set5 hB6 (Nat.le_succ _) (.slice D1 B.l.length d1) (.slice D2 B.h.length d2) (.slice D3 B.w.length d3) (.slice D4 B.f.length d4) (.int .i64 B.n))
        rw [HNO.out.1, HNO.out.2]
        exact hR

      · have HN := Lib.hid (takeAll_yes HT.out.1 hxk.out HV.out)
        have hgl := HI.out.1.lt
        have p1 := fun q : Past wr => Past.cell hgl a2 q
        have p2 := fun q : Past wr => Past.cell hb hx q
        have hlw : wk.length = cw ∧ (B.f ++ l.take k).length = cf := HT.out.2
        have HLW := Lib.hid hlw
        clear hlw
        go_wp2_with fail
        go_quiet ((go_at_call 67; exact Calls.quiet_of (HQH.out _)))
        clear a2 af2
        go_wp2_with fail
        generalize hwn : World.drewN wr _ = wn
        have hbn : Below wr.heap.size wr wn := by rw [← hwn]; exact below_drewN _ _
        clear hwn
        refine wp_region_two 6 6 (fun w' => ∃ q : Past wr, w' = q.v) (fun _ => True) (by kernel_rfl) ?_
        obtain ⟨w0, hw0⟩ : ∃ w0, w0 = wn.drew := ⟨_, rfl⟩
        have T0 : Hid (Below wr.heap.size wr w0) := Lib.hid (by rw [hw0]; exact hbn.drew)
        rw [← hw0]
        clear hw0 hbn
        refine wpAnyX_pass (C := (fun w' => ∃ q : Past wr, w' = q.v)) (some false) [true, true, true, true, true, true] rfl (by kernel_rfl) (fun _ _ t _ _ h => by cases t <;> exact h) ⟨fun _ => ⟨⟨w0, T0.out⟩, rfl⟩, fun _ => trivial⟩ ?_
        simp only [keepOps]
        repeat (go_big_quiet_step (fail))
        refine wpQuiet_nil ?_
        clear p1 p2
        refine wpAnyX_one 6 rfl (by kernel_rfl) (by kernel_rfl) ?_
        go_wp2_with fail
        refine (l09LessT _ wk x _ (hrd.out.below T0.out) (by have := HLW.out.1; omega)).mono ?_
        rintro e w6 ⟨v7, rfl, h7, hb7⟩
        obtain ⟨G3, g3, rfl⟩ := owns_form' h7
        have hz0' := T0.out.size
        have hz7 := hb7.size
        have q6 := (HI.out.1.below T0.out hgl).below hb7 (by omega)
        have TB : Hid (Below wr.heap.size wr w6) := Lib.hid (T0.out.trans (hb7.mono T0.out.size))
        obtain ⟨m2, mf2⟩ := q6.at_ 2 (x := .slice E3 cw e3) rfl
        try dsimp only
        go_wp2_with fail
        refine ⟨⟨fun _ => ⟨⟨w6, TB.out⟩, rfl⟩, fun _ => trivial⟩, ?_⟩
        refine wpAnyX_pass (C := (fun _ => True)) none [false, false, false, false, false, false, false, true] rfl (by kernel_rfl) (fun _ _ t _ _ h => by cases t <;> exact h) ⟨fun _ => ⟨⟨w6, TB.out⟩, rfl⟩, fun _ => trivial⟩ ?_
        simp only [keepOps]
        repeat (go_big_quiet_step (fail))
        refine wpQuiet_nil ?_
        refine wpAnyX_one 8 rfl (by kernel_rfl) (by kernel_rfl) ?_
        go_wp2_with fail
        refine ⟨⟨fun h => absurd (show true = false from h) (by decide), fun _ => trivial⟩, ?_⟩
        refine wpAnyX_done (by kernel_rfl) ?_
        try dsimp only
        go_wp2_with fail
        have hO6 : OwnBT w6 w1.heap.size (.slice D1 B.l.length d1) (.slice D2 B.h.length d2) (.slice G3 (lessF wk x).length g3) (.slice E4 cf e4) { B with w := lessF wk x, f := B.f ++ l.take k } := HI.out.2.2.2.1.setQ (B' := { B with w := lessF wk x, f := B.f ++ l.take k }) (owns_mono h7 (by have := HI.out.2.2.2.2.2.2; omega)) (fun k hk => by have := (h7.lt k hk).1; omega) TB.out rfl rfl rfl
        have hN6 : NeB w2.heap.size (.slice D1 B.l.length d1) (.slice D2 B.h.length d2) (.slice G3 (lessF wk x).length g3) (.slice E4 cf e4) := ⟨HI.out.2.2.2.2.1.1, HI.out.2.2.2.2.1.2.1, fun e9 => by have := h7.lt _ e9; omega, HI.out.2.2.2.2.1.2.2.2⟩
        have hw2 : w.heap.size + 2 ≤ w2.heap.size := by omega
        have hlo := HI.out.2.2.2.2.2.2
        have hB6 := HI.out.2.2.2.2.2.1.trans (TB.out.mono HI.out.2.2.2.2.2.1.size)
        have k6 := HI.out.2.1.below TB.out HI.out.2.1.lt
        have r6 := HI.out.2.2.1.below TB.out HI.out.2.2.1.lt
        obtain ⟨W6, hW6⟩ : ∃ W6, W6 = w6.setCell ⟨w2.heap.size, 2, none⟩ (.slice G3 (lessF wk x).length g3) := ⟨_, rfl⟩
        have hzW : w6.heap.size ≤ W6.heap.size ∧ W6.heap.size ≤ w6.heap.size := by rw [hW6]; simp [World.setCell]
        have HW6 : Hid (Bk W6 w2.heap.size #[.slice D1 B.l.length d1, .slice D2 B.h.length d2, .slice G3 (lessF wk x).length g3, .slice E4 cf e4, .int .i64 B.n] 31 ∧ Bk W6 w.heap.size #[.slice A1 B.l.length c1, .slice A2 B.h.length c2, .slice A3 B.w.length c3, .slice A4 B.f.length c4, .int .i64 B.n] 31 ∧ Bk W6 (w.heap.size + 1) #[.slice none 0 0, .slice none 0 0, .slice none 0 0, .slice none 0 0, .int .i64 0] 31 ∧ OwnBT W6 w1.heap.size (.slice D1 B.l.length d1) (.slice D2 B.h.length d2) (.slice G3 (lessF wk x).length g3) (.slice E4 cf e4) { B with w := lessF wk x, f := B.f ++ l.take k } ∧ NeB w2.heap.size (.slice D1 B.l.length d1) (.slice D2 B.h.length d2) (.slice G3 (lessF wk x).length g3) (.slice E4 cf e4) ∧ Below w.heap.size w W6) := Lib.hid (by
          rw [hW6]
          exact ⟨q6.set_ 2 _, k6.far (p := ⟨w2.heap.size, 2, none⟩) (by simp; omega) _, r6.far (p := ⟨w2.heap.size, 2, none⟩) (by simp; omega) _, hO6.only1 hN6 (Only.setCell w6 (i := 2) _), hN6, hB6.setCell (p := ⟨w2.heap.size, 2, none⟩) (by show w.heap.size ≤ w2.heap.size; omega) _⟩)
        obtain ⟨b', o', he', hb', hc'⟩ := HUR.out W6 HW6.out.2.2.2.2.2 (by omega)
        injection he' with he'
        injection he' with he1 he2
        subst he1 he2
        have hx6 : W6.cell? ⟨b, o + k, none⟩ = some (.int .i64 x) := hc' k _ (by simp [ints, hxk.out])
        rw [← hW6]
        clear hW6 q6 k6 r6 hO6 hN6 hB6 h7 hb7 m2 mf2 hc'
        have HF2 : Hid (l.take (k + 1) = l.take k ++ [x]) := Lib.hid (by rw [List.take_add_one, hxk.out]; rfl)
        have HCF : Hid (cf = B.f.length + k) := Lib.hid (by have := HLW.out.2; simp at this; omega)
        have hq6l := HW6.out.1.lt
        obtain ⟨y3, yf3⟩ := HW6.out.1.at_ 3 (x := .slice E4 cf e4) rfl
        have p1 := fun q : Past W6 => Past.cell hq6l y3 q
        have p2 := fun q : Past W6 => Past.cell hb' hx6 q
        clear y3 yf3 hx6
        refine wp_region_two 7 7 (fun w' => ∃ q : Past W6, w' = q.v) (fun _ => True) (by kernel_rfl) ?_
        obtain ⟨w7, hw7⟩ : ∃ w7, w7 = W6.drew := ⟨_, rfl⟩
        have T7 : Hid (Below W6.heap.size W6 w7) := Lib.hid (by rw [hw7]; exact (Below.refl _ _).drew)
        rw [← hw7]
        clear hw7
        refine wpAnyX_pass (C := (fun w' => ∃ q : Past W6, w' = q.v)) (some false) [true, true, true, true, true, true] rfl (by kernel_rfl) (fun _ _ t _ _ h => by cases t <;> exact h) ⟨fun _ => ⟨⟨w7, T7.out⟩, rfl⟩, fun _ => trivial⟩ ?_
        simp only [keepOps]
        repeat (go_big_quiet_step (fail))
        refine wpQuiet_nil ?_
        clear p1 p2
        refine wpAnyX_one 6 rfl (by kernel_rfl) (by kernel_rfl) ?_
        go_wp2_with fail
        obtain ⟨wA, hwA⟩ : ∃ wA, wA = w7.alloc (.cells #[.int .i64 x] 3) := ⟨_, rfl⟩
        have TA : Hid (Below W6.heap.size W6 wA) := Lib.hid (by rw [hwA]; exact T7.out.alloc T7.out.size _)
        have hsA := TA.out.size
        have hs0 : w7.heap.size < wA.heap.size := by rw [hwA]; simp
        have hNC := new_cells w7 [.int .i64 x] 3
        rw [show ([.int .i64 x] : List Value).toArray = #[.int .i64 x] from rfl, ← hwA] at hNC
        rw [← hwA]
        clear hwA
        have hOA := HW6.out.2.2.2.1.below TA.out
        have qA := HW6.out.1.below TA.out hq6l
        have hfA : wA.ownsRow w1.heap.size 3 1 (.slice E4 cf e4) cf (ints (B.f ++ l.take k)) := by
          have h : wA.ownsRow w1.heap.size 3 1 (.slice E4 cf e4) (B.f ++ l.take k).length (ints (B.f ++ l.take k)) := hOA.f
          rwa [HLW.out.2] at h
        refine ⟨⟨fun _ => ⟨⟨wA, TA.out⟩, rfl⟩, fun _ => trivial⟩, ?_⟩
        refine wpAnyX_one 7 rfl (by kernel_rfl) (by kernel_rfl) ?_
        refine wpList_append_own_at _ rfl _ _ 22 rfl w1.heap.size 3 i (.int .i64 0) 1 8 Try.underlying22 hi hiz0 hiz1 hiz2 rfl (by decide) _ _ _ rfl hfA ⟨w7.heap.size, 0, none⟩ 1 1 [.int .i64 x] rfl rfl hNC (by simp [Value.oneCell']) (by unfold maxLen; omega) (by omega) (by omega) ?_
        intro v9 w9 h9 hg9 _ hloc
        obtain ⟨G4, g4, rfl⟩ := owns_form' h9
        have hHN := HW6.out.2.2.2.2.1
        have q9 := qA.grownO hg9 hHN.2.2.2
        obtain ⟨y4, yf4⟩ := q9.at_ 3 (x := .slice E4 cf e4) rfl
        have HFIN : Hid (Bk (w9.setCell ⟨w2.heap.size, 3, none⟩ (.slice G4 (cf + 1) g4)) w2.heap.size #[.slice D1 B.l.length d1, .slice D2 B.h.length d2, .slice G3 (lessF wk x).length g3, .slice G4 (cf + 1) g4, .int .i64 B.n] 31 ∧ Bk (w9.setCell ⟨w2.heap.size, 3, none⟩ (.slice G4 (cf + 1) g4)) w.heap.size #[.slice A1 B.l.length c1, .slice A2 B.h.length c2, .slice A3 B.w.length c3, .slice A4 B.f.length c4, .int .i64 B.n] 31 ∧ Bk (w9.setCell ⟨w2.heap.size, 3, none⟩ (.slice G4 (cf + 1) g4)) (w.heap.size + 1) #[.slice none 0 0, .slice none 0 0, .slice none 0 0, .slice none 0 0, .int .i64 0] 31 ∧ OwnBT (w9.setCell ⟨w2.heap.size, 3, none⟩ (.slice G4 (cf + 1) g4)) w1.heap.size (.slice D1 B.l.length d1) (.slice D2 B.h.length d2) (.slice G3 (lessF wk x).length g3) (.slice G4 (cf + 1) g4) { B with w := lessF wk x, f := B.f ++ l.take (k + 1) } ∧ NeB w2.heap.size (.slice D1 B.l.length d1) (.slice D2 B.h.length d2) (.slice G3 (lessF wk x).length g3) (.slice G4 (cf + 1) g4) ∧ Below w.heap.size w (w9.setCell ⟨w2.heap.size, 3, none⟩ (.slice G4 (cf + 1) g4)) ∧ w1.heap.size ≤ (w9.setCell ⟨w2.heap.size, 3, none⟩ (.slice G4 (cf + 1) g4)).heap.size) := Lib.hid (by
          have hlw := (hOA.f.lt)
          have hn9 := ne_new hHN.2.2.2 hloc (by omega)
          have hN9 : NeB w2.heap.size (.slice D1 B.l.length d1) (.slice D2 B.h.length d2) (.slice G3 (lessF wk x).length g3) (.slice G4 (cf + 1) g4) := ⟨hHN.1, hHN.2.1, hHN.2.2.1, hn9⟩
          have hgs := hg9.size
          have hB9 := (HW6.out.2.2.2.2.2.trans (TA.out.mono HW6.out.2.2.2.2.2.size)).grown hg9 (by have := HW6.out.2.2.2.2.2.size; omega) (fun k hk => by have := (hOA.f.lt k hk).1; omega)
          have h10 : w9.ownsRow w1.heap.size 3 1 (.slice G4 (cf + 1) g4) (B.f ++ l.take (k + 1)).length (ints (B.f ++ l.take (k + 1))) := by
            rw [HF2.out, ← List.append_assoc, List.length_append, HLW.out.2]
            simpa [ints] using h9
          have hO9 := hOA.putF (B' := { B with w := lessF wk x, f := B.f ++ l.take (k + 1) }) h10 hg9 hloc rfl rfl rfl
          exact ⟨q9.set_ 3 _, ((HW6.out.2.1.below TA.out HW6.out.2.1.lt).grownO hg9 (fun e9 => by have := (hOA.f.lt _ e9).1; omega)).far (p := ⟨w2.heap.size, 3, none⟩) (by simp; omega) _, ((HW6.out.2.2.1.below TA.out HW6.out.2.2.1.lt).grownO hg9 (fun e9 => by have := (hOA.f.lt _ e9).1; omega)).far (p := ⟨w2.heap.size, 3, none⟩) (by simp; omega) _, hO9.only1 hN9 (Only.setCell w9 (i := 3) _), hN9, hB9.setCell (p := ⟨w2.heap.size, 3, none⟩) (by show w.heap.size ≤ w2.heap.size; omega) _, by simp only [World.setCell, Array.size_modify]; omega⟩)
        clear hOA qA hfA q9 h9 hg9 hloc hNC hHN
        go_wp2_with fail
        refine ⟨⟨fun h => absurd (show true = false from h) (by decide), fun _ => trivial⟩, ?_⟩
        refine wpAnyX_pass (C := (fun _ => True)) none [false, false, false, false, false, false, false, false, true] rfl (by kernel_rfl) (fun _ _ t _ _ h => by cases t <;> exact h) ⟨fun h => absurd (show true = false from h) (by decide), fun _ => trivial⟩ ?_
        simp only [keepOps]
        repeat (go_big_quiet_step (fail))
        refine wpQuiet_nil ?_
        refine wpAnyX_one 9 rfl (by kernel_rfl) (by kernel_rfl) ?_
        go_wp2_with fail
        refine ⟨⟨fun h => absurd (show true = false from h) (by decide), fun _ => trivial⟩, ?_⟩
        refine wpAnyX_done (by kernel_rfl) ?_
        try dsimp only
        go_wp2_with fail
        exact ⟨⟨k + 1, lessF wk x, G3, g3, G4, g4, (lessF wk x).length, cf + 1, by omega, by go_num, by have h1 := lessF_len wk x; have h2 := HLW.out.1; omega, by have := HCF.out; omega, Lib.hid ⟨HN.out, rfl, by rw [HF2.out, ← List.append_assoc, List.length_append, HLW.out.2]; rfl⟩, HFIN⟩, by simp [intOf]; omega⟩
    · obtain rfl : k = l.length := by omega
      have ht := HT.out
      rw [List.take_length] at ht
      have HY := Lib.hid (free_yes (B := B) (l := l) HOK.out ht.1)
      obtain ⟨q9, k9, r9, hO9, hN9, hB9, hz9⟩ := HI.out
      rw [List.take_length, ← HY.out.1] at hO9
      obtain ⟨g0, gf0⟩ := q9.at_ 0 (x := .slice D1 B.l.length d1) rfl
      obtain ⟨g1, gf1⟩ := q9.at_ 1 (x := .slice D2 B.h.length d2) rfl
      obtain ⟨g2, gf2⟩ := q9.at_ 2 (x := .slice E3 cw e3) rfl
      obtain ⟨g3, gf3⟩ := q9.at_ 3 (x := .slice E4 cf e4) rfl
      obtain ⟨g4, gf4⟩ := q9.at_ 4 (x := .int .i64 B.n) rfl
      obtain ⟨h0, hf0⟩ := r9.at_ 0 (x := .slice none 0 0) rfl
      obtain ⟨h1, hf1⟩ := r9.at_ 1 (x := .slice none 0 0) rfl
      obtain ⟨h2, hf2⟩ := r9.at_ 2 (x := .slice none 0 0) rfl
      obtain ⟨h3, hf3⟩ := r9.at_ 3 (x := .slice none 0 0) rfl
      obtain ⟨h4, hf4⟩ := r9.at_ 4 (x := .int .i64 0) rfl
      have HFIN := Lib.hid (And.intro r9 (And.intro hO9 hB9))
      clear q9 k9 r9 hO9 hN9 hB9 ht
      go_wp2_with fail
      obtain ⟨r9, hO9, hB9⟩ := HFIN.out
      have qF := r9.set5 (.slice D1 B.l.length d1) (.slice D2 B.h.length d2) (.slice E3 cw e3) (.slice E4 cf e4) (.int .i64 B.n)
      obtain ⟨zz0, -⟩ := qF.at_ 0 (x := .slice D1 B.l.length d1) rfl
      obtain ⟨zz1, -⟩ := qF.at_ 1 (x := .slice D2 B.h.length d2) rfl
      obtain ⟨zz2, -⟩ := qF.at_ 2 (x := .slice E3 cw e3) rfl
      obtain ⟨zz3, -⟩ := qF.at_ 3 (x := .slice E4 cf e4) rfl
      obtain ⟨zz4, -⟩ := qF.at_ 4 (x := .int .i64 B.n) rfl
      refine bodyPost_ret (v := .tuple #[.agg #[.slice D1 B.l.length d1, .slice D2 B.h.length d2, .slice E3 cw e3, .slice E4 cf e4, .int .i64 B.n], .bool true]) (by simp [results, Try.results91, go_sem, zz0, zz1, zz2, zz3, zz4]) rfl ?_
      have hR := (hO9.only1 (hO9.neLow (by omega)) (only_set5 _ (w.heap.size + 1) (.slice D1 B.l.length d1) (.slice D2 B.h.length d2) (.slice E3 cw e3) (.slice E4 cf e4) (.int .i64 B.n))).ret (w := w) (x := .bool true) (by omega) (below_set5 hB9 (Nat.le_succ _) (.slice D1 B.l.length d1) (.slice D2 B.h.length d2) (.slice E3 cw e3) (.slice E4 cf e4) (.int .i64 B.n))
      rw [show (freeBn B l).n = B.n by rw [HY.out.1]] at hR
      rw [HY.out.2]
      exact hR
end Go.Proofs.Ytiamkgkhamnaeaa
