/- Contracts of TakeHold (packages spec and impl). Conditions: the bench's rows can be read (impl: and hold numbers of 64 bits); lengths that a law bounds. -/
import Derived.Test.YtiamkgkhamnaeaaN14
import Derived.Test.YtiamkgkhamnaeaaN7
namespace Go.Proofs.Ytiamkgkhamnaeaa
set_option maxRecDepth 20000
set_option linter.unusedSimpArgs false
set_option linter.unusedVariables false
open Go.ChangeShapes Go.WideShapes Go.ChangeAt Go.RowKit
set_option linter.unusedVariables false
theorem takeOk_no {B : Bn} {t x : Int} (h : takeOk B t x = false) : takeBn B t x = B ∧ takeOk B t x = false := by simp [takeBn, h]
theorem takeOk_yes {B : Bn} {t x : Int} (h : takeOk B t x = true) : takeBn B t x = { B with h := B.h ++ [⟨t, x⟩] } ∧ takeOk B t x = true := by simp [takeBn, h]
theorem OwnBT.putH {w w' : World} {lo : Nat} {a b c d v : Value} {B B' : Bn} (h : OwnBT w lo a b c d B) (h9 : w'.ownsRow lo 92 2 v B'.h.length (flc2 B'.h)) (hg : w.grownBy w' b.ownBlock) (hloc : v.ownBlock = b.ownBlock ∨ v.ownBlock = some w.heap.size) (e1 : B'.l = B.l) (e2 : B'.w = B.w) (e3 : B'.f = B.f) :
    OwnBT w' lo a v c d B' :=
  ⟨by rw [e1]; exact kept_ap h.l h.ab.symm hg, h9, by rw [e2]; exact kept_ap h.q h.bc hg, by rw [e3]; exact kept_ap h.f h.bd hg, (ap_new h.l h.ab.symm hloc).symm, h.ac, h.ad, ap_new h.q h.bc hloc, ap_new h.f h.bd hloc, h.cd⟩
set_option maxHeartbeats 3200000 in
theorem spec_TakeHold (a b c d : Value) (B : Bn) (t x : Int) (w : World) (r : RdBn w a b c d B)  (hsz : szBn B ≤ 16777215) :
    Calls Try.prog 40 #[.agg #[a, b, c, d, .int .i64 B.n], .int .i64 t, .int .i64 x] w (RetBnV (takeBn B t x) (.bool (takeOk B t x)) w) := by
  obtain ⟨A1, c1, A2, c2, A3, c3, A4, c4, ⟨rfl, rfl, rfl, rfl⟩, -, -⟩ := r.slices
  obtain ⟨i, hi, hiz0, hiz1, hiz2⟩ := info_parts infoHold
  have hll : (B.l.length ≤ 16777215 ∧ B.h.length ≤ 16777215) ∧ B.w.length ≤ 16777215 ∧ B.f.length ≤ 16777215 := by unfold szBn at hsz; omega
  obtain ⟨W0, hW0⟩ : ∃ W0, W0 = (w.alloc (.cells #[.slice A1 B.l.length c1, .slice A2 B.h.length c2, .slice A3 B.w.length c3, .slice A4 B.f.length c4, .int .i64 B.n] 31)).alloc (.cells #[.slice none 0 0, .slice none 0 0, .slice none 0 0, .slice none 0 0, .int .i64 0] 31) := ⟨_, rfl⟩
  have hB0 := ((Below.refl w.heap.size w).alloc (Nat.le_refl _) (.cells #[.slice A1 B.l.length c1, .slice A2 B.h.length c2, .slice A3 B.w.length c3, .slice A4 B.f.length c4, .int .i64 B.n] 31)).alloc (by simp) (.cells #[.slice none 0 0, .slice none 0 0, .slice none 0 0, .slice none 0 0, .int .i64 0] 31)
  have k0 := (Bk.new w #[.slice A1 B.l.length c1, .slice A2 B.h.length c2, .slice A3 B.w.length c3, .slice A4 B.f.length c4, .int .i64 B.n] 31).alloc (.cells #[.slice none 0 0, .slice none 0 0, .slice none 0 0, .slice none 0 0, .int .i64 0] 31)
  have r0 := Bk.new (w.alloc (.cells #[.slice A1 B.l.length c1, .slice A2 B.h.length c2, .slice A3 B.w.length c3, .slice A4 B.f.length c4, .int .i64 B.n] 31)) #[.slice none 0 0, .slice none 0 0, .slice none 0 0, .slice none 0 0, .int .i64 0] 31
  simp only [World.size_alloc] at r0
  have hs0 : W0.heap.size = w.heap.size + 2 := by rw [hW0]; simp
  rw [← hW0] at hB0 k0 r0
  have HBO : Hid (∀ W : World, Below w.heap.size w W → Calls Try.prog 35 #[.agg #[.slice A1 B.l.length c1, .slice A2 B.h.length c2, .slice A3 B.w.length c3, .slice A4 B.f.length c4, .int .i64 B.n]] W fun e w' => e = .returned (.bool (bnOk B)) ∧ Below W.heap.size W w') := Lib.hid (fun W hW => spec_BenchOk _ _ _ _ B W (r.below hW) (by omega))
  have HC := Lib.hid (l09CopyT _ _ _ _ B W0 (r.below hB0) (by omega))
  have HRW := Lib.hid r
  have HSZ := Lib.hid hsz
  have HW0 := Lib.hid hW0
  have hz0 : w.heap.size + 2 ≤ W0.heap.size := by omega
  have HB0 := Lib.hid hB0
  obtain ⟨y0, -⟩ := k0.at_ 0 (x := .slice A1 B.l.length c1) rfl
  clear hW0 hs0 hB0 r hsz
  go_enter Try.func40, Try.ntmps40
  go_wp2_with fail
  rw [← HW0.out]
  clear y0
  refine HC.out.mono ?_
  rintro e w1 ⟨u1, u2, u3, u4, rfl, hO, hb1⟩
  obtain ⟨D1, d1, rfl⟩ := owns_form' hO.l
  obtain ⟨D2, d2, rfl⟩ := owns_form' hO.h
  obtain ⟨D3, d3, rfl⟩ := owns_form' hO.q
  obtain ⟨D4, d4, rfl⟩ := owns_form' hO.f
  have hz1 := hb1.size
  have k1 := (k0.below hb1 k0.lt).alloc (.cells #[.slice D1 B.l.length d1, .slice D2 B.h.length d2, .slice D3 B.w.length d3, .slice D4 B.f.length d4, .int .i64 B.n] 31)
  have r1 := (r0.below hb1 r0.lt).alloc (.cells #[.slice D1 B.l.length d1, .slice D2 B.h.length d2, .slice D3 B.w.length d3, .slice D4 B.f.length d4, .int .i64 B.n] 31)
  have q1 := Bk.new w1 #[.slice D1 B.l.length d1, .slice D2 B.h.length d2, .slice D3 B.w.length d3, .slice D4 B.f.length d4, .int .i64 B.n] 31
  have hO1 := hO.below ((Below.refl _ _).alloc (Nat.le_refl _) (.cells #[.slice D1 B.l.length d1, .slice D2 B.h.length d2, .slice D3 B.w.length d3, .slice D4 B.f.length d4, .int .i64 B.n] 31))
  have HN1 := Lib.hid (hO.neHigh (g := w1.heap.size) (Nat.le_refl _))
  have hB1 := (HB0.out.trans (hb1.mono HB0.out.size)).alloc (by omega) (.cells #[.slice D1 B.l.length d1, .slice D2 B.h.length d2, .slice D3 B.w.length d3, .slice D4 B.f.length d4, .int .i64 B.n] 31)
  obtain ⟨W1, hW1⟩ : ∃ W1, W1 = w1.alloc (.cells #[.slice D1 B.l.length d1, .slice D2 B.h.length d2, .slice D3 B.w.length d3, .slice D4 B.f.length d4, .int .i64 B.n] 31) := ⟨_, rfl⟩
  rw [← hW1] at k1 r1 q1 hO1 hB1
  have HS1 := Lib.hid (And.intro hO1 (And.intro k1 (And.intro r1 (And.intro q1 hB1))))
  have HBC := Lib.hid (HBO.out _ hB1)
  obtain ⟨t0, -⟩ := k1.at_ 0 (x := .slice A1 B.l.length c1) rfl
  obtain ⟨t1, -⟩ := k1.at_ 1 (x := .slice A2 B.h.length c2) rfl
  obtain ⟨t2, -⟩ := k1.at_ 2 (x := .slice A3 B.w.length c3) rfl
  obtain ⟨t3, -⟩ := k1.at_ 3 (x := .slice A4 B.f.length c4) rfl
  obtain ⟨t4, -⟩ := k1.at_ 4 (x := .int .i64 B.n) rfl
  have HW1 := Lib.hid hW1
  have hgl := q1.lt
  clear k0 r0 hO hb1 hW1 k1 r1 q1 hO1 hB1
  go_upto_region 2 with (fail)
  rw [← HW1.out]
  cases hok : bnOk B
  · have HNO := Lib.hid (takeOk_no (B := B) (t := t) (x := x) (by simp [takeOk, hok]))
    rw [hok] at HBC
    clear hok
    go_wp2_with (go_at_call 35; refine HBC.out.mono ?_; rintro e w2 ⟨rfl, hb2⟩; obtain ⟨hO1, k1, r1, q1, hB1⟩ := HS1.out; have k2 := k1.below hb2 k1.lt; have r2 := r1.below hb2 r1.lt; have q2 := q1.below hb2 q1.lt; have hO2 := hO1.below hb2; have hB2 := hB1.trans (hb2.mono hB1.size); obtain ⟨n0, nf0⟩ := k2.at_ 0 (x := .slice A1 B.l.length c1) rfl; obtain ⟨n1, nf1⟩ := k2.at_ 1 (x := .slice A2 B.h.length c2) rfl; obtain ⟨n2, nf2⟩ := k2.at_ 2 (x := .slice A3 B.w.length c3) rfl; obtain ⟨n3, nf3⟩ := k2.at_ 3 (x := .slice A4 B.f.length c4) rfl; obtain ⟨n4, nf4⟩ := k2.at_ 4 (x := .int .i64 B.n) rfl; obtain ⟨e0, ef0⟩ := q2.at_ 0 (x := .slice D1 B.l.length d1) rfl; obtain ⟨e1, ef1⟩ := q2.at_ 1 (x := .slice D2 B.h.length d2) rfl; obtain ⟨e2, ef2⟩ := q2.at_ 2 (x := .slice D3 B.w.length d3) rfl; obtain ⟨e3, ef3⟩ := q2.at_ 3 (x := .slice D4 B.f.length d4) rfl; obtain ⟨e4, ef4⟩ := q2.at_ 4 (x := .int .i64 B.n) rfl; obtain ⟨f0, ff0⟩ := r2.at_ 0 (x := .slice none 0 0) rfl; obtain ⟨f1, ff1⟩ := r2.at_ 1 (x := .slice none 0 0) rfl; obtain ⟨f2, ff2⟩ := r2.at_ 2 (x := .slice none 0 0) rfl; obtain ⟨f3, ff3⟩ := r2.at_ 3 (x := .slice none 0 0) rfl; obtain ⟨f4, ff4⟩ := r2.at_ 4 (x := .int .i64 0) rfl)
    have qF := r2.set5 (.slice D1 B.l.length d1) (.slice D2 B.h.length d2) (.slice D3 B.w.length d3) (.slice D4 B.f.length d4) (.int .i64 B.n)
    obtain ⟨zz0, -⟩ := qF.at_ 0 (x := .slice D1 B.l.length d1) rfl
    obtain ⟨zz1, -⟩ := qF.at_ 1 (x := .slice D2 B.h.length d2) rfl
    obtain ⟨zz2, -⟩ := qF.at_ 2 (x := .slice D3 B.w.length d3) rfl
    obtain ⟨zz3, -⟩ := qF.at_ 3 (x := .slice D4 B.f.length d4) rfl
    obtain ⟨zz4, -⟩ := qF.at_ 4 (x := .int .i64 B.n) rfl
    refine bodyPost_ret (v := .tuple #[.agg #[.slice D1 B.l.length d1, .slice D2 B.h.length d2, .slice D3 B.w.length d3, .slice D4 B.f.length d4, .int .i64 B.n], .bool false]) (by simp [results, Try.results40, go_sem, zz0, zz1, zz2, zz3, zz4]) rfl ?_
    have hR := (hO2.only1 (hO2.neLow (by omega)) (only_set5 _ (w.heap.size + 1) (.slice D1 B.l.length d1) (.slice D2 B.h.length d2) (.slice D3 B.w.length d3) (.slice D4 B.f.length d4) (.int .i64 B.n))).ret (w := w) (x := .bool false) (by omega) (below_set5 hB2 (Nat.le_succ _) (.slice D1 B.l.length d1) (.slice D2 B.h.length d2) (.slice D3 B.w.length d3) (.slice D4 B.f.length d4) (.int .i64 B.n))
    rw [HNO.out.1, HNO.out.2]
    exact hR
  rw [hok] at HBC
  have HOK := Lib.hid hok
  clear hok
  cases hv2 : inB t 0 4
  · have HNO := Lib.hid (takeOk_no (B := B) (t := t) (x := x) (by have : inB t 0 4 = false := hv2
                                                                  simp [takeOk, this]))
    have HV2 := Lib.hid hv2
    clear hv2
    go_wp2_with (first
    | (go_at_call 35; refine HBC.out.mono ?_; rintro e w2 ⟨rfl, hb2⟩; obtain ⟨hO1, k1, r1, q1, hB1⟩ := HS1.out; have k2 := k1.below hb2 k1.lt; have r2 := r1.below hb2 r1.lt; have q2 := q1.below hb2 q1.lt; have hO2 := hO1.below hb2; have hB2 := hB1.trans (hb2.mono hB1.size); obtain ⟨n0, nf0⟩ := k2.at_ 0 (x := .slice A1 B.l.length c1) rfl; obtain ⟨n1, nf1⟩ := k2.at_ 1 (x := .slice A2 B.h.length c2) rfl; obtain ⟨n2, nf2⟩ := k2.at_ 2 (x := .slice A3 B.w.length c3) rfl; obtain ⟨n3, nf3⟩ := k2.at_ 3 (x := .slice A4 B.f.length c4) rfl; obtain ⟨n4, nf4⟩ := k2.at_ 4 (x := .int .i64 B.n) rfl; obtain ⟨e0, ef0⟩ := q2.at_ 0 (x := .slice D1 B.l.length d1) rfl; obtain ⟨e1, ef1⟩ := q2.at_ 1 (x := .slice D2 B.h.length d2) rfl; obtain ⟨e2, ef2⟩ := q2.at_ 2 (x := .slice D3 B.w.length d3) rfl; obtain ⟨e3, ef3⟩ := q2.at_ 3 (x := .slice D4 B.f.length d4) rfl; obtain ⟨e4, ef4⟩ := q2.at_ 4 (x := .int .i64 B.n) rfl; obtain ⟨f0, ff0⟩ := r2.at_ 0 (x := .slice none 0 0) rfl; obtain ⟨f1, ff1⟩ := r2.at_ 1 (x := .slice none 0 0) rfl; obtain ⟨f2, ff2⟩ := r2.at_ 2 (x := .slice none 0 0) rfl; obtain ⟨f3, ff3⟩ := r2.at_ 3 (x := .slice none 0 0) rfl; obtain ⟨f4, ff4⟩ := r2.at_ 4 (x := .int .i64 0) rfl)
    | (go_at_call 66; refine (l01In t 0 4 _).mono ?_; rintro e w' ⟨rfl, rfl⟩; rw [HV2.out]))
    have qF := r2.set5 (.slice D1 B.l.length d1) (.slice D2 B.h.length d2) (.slice D3 B.w.length d3) (.slice D4 B.f.length d4) (.int .i64 B.n)
    obtain ⟨zz0, -⟩ := qF.at_ 0 (x := .slice D1 B.l.length d1) rfl
    obtain ⟨zz1, -⟩ := qF.at_ 1 (x := .slice D2 B.h.length d2) rfl
    obtain ⟨zz2, -⟩ := qF.at_ 2 (x := .slice D3 B.w.length d3) rfl
    obtain ⟨zz3, -⟩ := qF.at_ 3 (x := .slice D4 B.f.length d4) rfl
    obtain ⟨zz4, -⟩ := qF.at_ 4 (x := .int .i64 B.n) rfl
    refine bodyPost_ret (v := .tuple #[.agg #[.slice D1 B.l.length d1, .slice D2 B.h.length d2, .slice D3 B.w.length d3, .slice D4 B.f.length d4, .int .i64 B.n], .bool false]) (by simp [results, Try.results40, go_sem, zz0, zz1, zz2, zz3, zz4]) rfl ?_
    have hR := (hO2.only1 (hO2.neLow (by omega)) (only_set5 _ (w.heap.size + 1) (.slice D1 B.l.length d1) (.slice D2 B.h.length d2) (.slice D3 B.w.length d3) (.slice D4 B.f.length d4) (.int .i64 B.n))).ret (w := w) (x := .bool false) (by omega) (below_set5 hB2 (Nat.le_succ _) (.slice D1 B.l.length d1) (.slice D2 B.h.length d2) (.slice D3 B.w.length d3) (.slice D4 B.f.length d4) (.int .i64 B.n))
    rw [HNO.out.1, HNO.out.2]
    exact hR
  have HV2 := Lib.hid hv2
  clear hv2
  cases hv3 : B.l.any (· == x)
  · have HNO := Lib.hid (takeOk_no (B := B) (t := t) (x := x) (by unfold takeOk; rw [hv3]; simp))
    have HV3 := Lib.hid hv3
    clear hv3
    go_wp2_with (first
    | (go_at_call 35; refine HBC.out.mono ?_; rintro e w2 ⟨rfl, hb2⟩; obtain ⟨hO1, k1, r1, q1, hB1⟩ := HS1.out; have k2 := k1.below hb2 k1.lt; have r2 := r1.below hb2 r1.lt; have q2 := q1.below hb2 q1.lt; have hO2 := hO1.below hb2; have hB2 := hB1.trans (hb2.mono hB1.size); obtain ⟨n0, nf0⟩ := k2.at_ 0 (x := .slice A1 B.l.length c1) rfl; obtain ⟨n1, nf1⟩ := k2.at_ 1 (x := .slice A2 B.h.length c2) rfl; obtain ⟨n2, nf2⟩ := k2.at_ 2 (x := .slice A3 B.w.length c3) rfl; obtain ⟨n3, nf3⟩ := k2.at_ 3 (x := .slice A4 B.f.length c4) rfl; obtain ⟨n4, nf4⟩ := k2.at_ 4 (x := .int .i64 B.n) rfl; obtain ⟨e0, ef0⟩ := q2.at_ 0 (x := .slice D1 B.l.length d1) rfl; obtain ⟨e1, ef1⟩ := q2.at_ 1 (x := .slice D2 B.h.length d2) rfl; obtain ⟨e2, ef2⟩ := q2.at_ 2 (x := .slice D3 B.w.length d3) rfl; obtain ⟨e3, ef3⟩ := q2.at_ 3 (x := .slice D4 B.f.length d4) rfl; obtain ⟨e4, ef4⟩ := q2.at_ 4 (x := .int .i64 B.n) rfl; obtain ⟨f0, ff0⟩ := r2.at_ 0 (x := .slice none 0 0) rfl; obtain ⟨f1, ff1⟩ := r2.at_ 1 (x := .slice none 0 0) rfl; obtain ⟨f2, ff2⟩ := r2.at_ 2 (x := .slice none 0 0) rfl; obtain ⟨f3, ff3⟩ := r2.at_ 3 (x := .slice none 0 0) rfl; obtain ⟨f4, ff4⟩ := r2.at_ 4 (x := .int .i64 0) rfl)
    | (go_at_call 66; refine (l01In t 0 4 _).mono ?_; rintro e w' ⟨rfl, rfl⟩; rw [HV2.out])
    | (go_at_call_of 67 (Value.slice A1 B.l.length c1 : Value); refine (l01Has _ B.l x _ (HRW.out.below hB2).l).mono ?_; rintro e w' ⟨rfl, rfl⟩; rw [HV3.out]))
    have qF := r2.set5 (.slice D1 B.l.length d1) (.slice D2 B.h.length d2) (.slice D3 B.w.length d3) (.slice D4 B.f.length d4) (.int .i64 B.n)
    obtain ⟨zz0, -⟩ := qF.at_ 0 (x := .slice D1 B.l.length d1) rfl
    obtain ⟨zz1, -⟩ := qF.at_ 1 (x := .slice D2 B.h.length d2) rfl
    obtain ⟨zz2, -⟩ := qF.at_ 2 (x := .slice D3 B.w.length d3) rfl
    obtain ⟨zz3, -⟩ := qF.at_ 3 (x := .slice D4 B.f.length d4) rfl
    obtain ⟨zz4, -⟩ := qF.at_ 4 (x := .int .i64 B.n) rfl
    refine bodyPost_ret (v := .tuple #[.agg #[.slice D1 B.l.length d1, .slice D2 B.h.length d2, .slice D3 B.w.length d3, .slice D4 B.f.length d4, .int .i64 B.n], .bool false]) (by simp [results, Try.results40, go_sem, zz0, zz1, zz2, zz3, zz4]) rfl ?_
    have hR := (hO2.only1 (hO2.neLow (by omega)) (only_set5 _ (w.heap.size + 1) (.slice D1 B.l.length d1) (.slice D2 B.h.length d2) (.slice D3 B.w.length d3) (.slice D4 B.f.length d4) (.int .i64 B.n))).ret (w := w) (x := .bool false) (by omega) (below_set5 hB2 (Nat.le_succ _) (.slice D1 B.l.length d1) (.slice D2 B.h.length d2) (.slice D3 B.w.length d3) (.slice D4 B.f.length d4) (.int .i64 B.n))
    rw [HNO.out.1, HNO.out.2]
    exact hR
  have HV3 := Lib.hid hv3
  clear hv3
  cases hv4 : (heldF B t).any (· == x)
  case true =>
    have HNO := Lib.hid (takeOk_no (B := B) (t := t) (x := x) (by rw [heldF_mem HOK.out] at hv4; unfold takeOk; rw [hv4]; simp))
    have HV4 := Lib.hid hv4
    clear hv4
    go_wp2_with (first
    | (go_at_call 35; refine HBC.out.mono ?_; rintro e w2 ⟨rfl, hb2⟩; obtain ⟨hO1, k1, r1, q1, hB1⟩ := HS1.out; have k2 := k1.below hb2 k1.lt; have r2 := r1.below hb2 r1.lt; have q2 := q1.below hb2 q1.lt; have hO2 := hO1.below hb2; have hB2 := hB1.trans (hb2.mono hB1.size); obtain ⟨n0, nf0⟩ := k2.at_ 0 (x := .slice A1 B.l.length c1) rfl; obtain ⟨n1, nf1⟩ := k2.at_ 1 (x := .slice A2 B.h.length c2) rfl; obtain ⟨n2, nf2⟩ := k2.at_ 2 (x := .slice A3 B.w.length c3) rfl; obtain ⟨n3, nf3⟩ := k2.at_ 3 (x := .slice A4 B.f.length c4) rfl; obtain ⟨n4, nf4⟩ := k2.at_ 4 (x := .int .i64 B.n) rfl; obtain ⟨e0, ef0⟩ := q2.at_ 0 (x := .slice D1 B.l.length d1) rfl; obtain ⟨e1, ef1⟩ := q2.at_ 1 (x := .slice D2 B.h.length d2) rfl; obtain ⟨e2, ef2⟩ := q2.at_ 2 (x := .slice D3 B.w.length d3) rfl; obtain ⟨e3, ef3⟩ := q2.at_ 3 (x := .slice D4 B.f.length d4) rfl; obtain ⟨e4, ef4⟩ := q2.at_ 4 (x := .int .i64 B.n) rfl; obtain ⟨f0, ff0⟩ := r2.at_ 0 (x := .slice none 0 0) rfl; obtain ⟨f1, ff1⟩ := r2.at_ 1 (x := .slice none 0 0) rfl; obtain ⟨f2, ff2⟩ := r2.at_ 2 (x := .slice none 0 0) rfl; obtain ⟨f3, ff3⟩ := r2.at_ 3 (x := .slice none 0 0) rfl; obtain ⟨f4, ff4⟩ := r2.at_ 4 (x := .int .i64 0) rfl)
    | (go_at_call 66; refine (l01In t 0 4 _).mono ?_; rintro e w' ⟨rfl, rfl⟩; rw [HV2.out])
    | (go_at_call_of 67 (Value.slice A1 B.l.length c1 : Value); refine (l01Has _ B.l x _ (HRW.out.below hB2).l).mono ?_; rintro e w' ⟨rfl, rfl⟩; rw [HV3.out])
    | (go_at_call 78; refine (spec_HeldBy _ _ _ _ B t _ (HRW.out.below hB2) (by have := HSZ.out; omega)).mono ?_; rintro e w3 ⟨v7, bs7, rfl, ho7, lo7, hb3⟩; obtain ⟨D7, d7, rfl, -, -⟩ := ho7.slice; have k3 := k2.below hb3 k2.lt; have r3 := r2.below hb3 r2.lt; have q3 := q2.below hb3 q2.lt; have hO3 := hO2.below hb3; have hB3 := hB2.trans (hb3.mono hB2.size); obtain ⟨eb0, ebf0⟩ := q3.at_ 0 (x := .slice D1 B.l.length d1) rfl; obtain ⟨eb1, ebf1⟩ := q3.at_ 1 (x := .slice D2 B.h.length d2) rfl; obtain ⟨eb2, ebf2⟩ := q3.at_ 2 (x := .slice D3 B.w.length d3) rfl; obtain ⟨eb3, ebf3⟩ := q3.at_ 3 (x := .slice D4 B.f.length d4) rfl; obtain ⟨eb4, ebf4⟩ := q3.at_ 4 (x := .int .i64 B.n) rfl; obtain ⟨fb0, fbf0⟩ := r3.at_ 0 (x := .slice none 0 0) rfl; obtain ⟨fb1, fbf1⟩ := r3.at_ 1 (x := .slice none 0 0) rfl; obtain ⟨fb2, fbf2⟩ := r3.at_ 2 (x := .slice none 0 0) rfl; obtain ⟨fb3, fbf3⟩ := r3.at_ 3 (x := .slice none 0 0) rfl; obtain ⟨fb4, fbf4⟩ := r3.at_ 4 (x := .int .i64 0) rfl)
    | (go_at_call 67; refine (l01Has _ (heldF B t) x _ ho7.rd).mono ?_; rintro e w' ⟨rfl, rfl⟩; rw [HV4.out]))
    have qF := r3.set5 (.slice D1 B.l.length d1) (.slice D2 B.h.length d2) (.slice D3 B.w.length d3) (.slice D4 B.f.length d4) (.int .i64 B.n)
    obtain ⟨zz0, -⟩ := qF.at_ 0 (x := .slice D1 B.l.length d1) rfl
    obtain ⟨zz1, -⟩ := qF.at_ 1 (x := .slice D2 B.h.length d2) rfl
    obtain ⟨zz2, -⟩ := qF.at_ 2 (x := .slice D3 B.w.length d3) rfl
    obtain ⟨zz3, -⟩ := qF.at_ 3 (x := .slice D4 B.f.length d4) rfl
    obtain ⟨zz4, -⟩ := qF.at_ 4 (x := .int .i64 B.n) rfl
    refine bodyPost_ret (v := .tuple #[.agg #[.slice D1 B.l.length d1, .slice D2 B.h.length d2, .slice D3 B.w.length d3, .slice D4 B.f.length d4, .int .i64 B.n], .bool false]) (by simp [results, Try.results40, go_sem, zz0, zz1, zz2, zz3, zz4]) rfl ?_
    have hR := (hO3.only1 (hO3.neLow (by omega)) (only_set5 _ (w.heap.size + 1) (.slice D1 B.l.length d1) (.slice D2 B.h.length d2) (.slice D3 B.w.length d3) (.slice D4 B.f.length d4) (.int .i64 B.n))).ret (w := w) (x := .bool false) (by omega) (below_set5 hB3 (Nat.le_succ _) (.slice D1 B.l.length d1) (.slice D2 B.h.length d2) (.slice D3 B.w.length d3) (.slice D4 B.f.length d4) (.int .i64 B.n))
    rw [HNO.out.1, HNO.out.2]
    exact hR
  have hyes : takeOk B t x = true := by
    rw [heldF_mem HOK.out] at hv4
    have h2 : inB t 0 4 = true := HV2.out
    unfold takeOk
    rw [HOK.out, h2, HV3.out, hv4]
    rfl
  have HV4 := Lib.hid hv4
  clear hv4
  have HY := Lib.hid (takeOk_yes (B := B) (t := t) (x := x) hyes)
  clear hyes
  go_upto_region 5 with (first
    | (go_at_call 35; refine HBC.out.mono ?_; rintro e w2 ⟨rfl, hb2⟩; obtain ⟨hO1, k1, r1, q1, hB1⟩ := HS1.out; have k2 := k1.below hb2 k1.lt; have r2 := r1.below hb2 r1.lt; have q2 := q1.below hb2 q1.lt; have hO2 := hO1.below hb2; have hB2 := hB1.trans (hb2.mono hB1.size); obtain ⟨n0, nf0⟩ := k2.at_ 0 (x := .slice A1 B.l.length c1) rfl; obtain ⟨n1, nf1⟩ := k2.at_ 1 (x := .slice A2 B.h.length c2) rfl; obtain ⟨n2, nf2⟩ := k2.at_ 2 (x := .slice A3 B.w.length c3) rfl; obtain ⟨n3, nf3⟩ := k2.at_ 3 (x := .slice A4 B.f.length c4) rfl; obtain ⟨n4, nf4⟩ := k2.at_ 4 (x := .int .i64 B.n) rfl; obtain ⟨e0, ef0⟩ := q2.at_ 0 (x := .slice D1 B.l.length d1) rfl; obtain ⟨e1, ef1⟩ := q2.at_ 1 (x := .slice D2 B.h.length d2) rfl; obtain ⟨e2, ef2⟩ := q2.at_ 2 (x := .slice D3 B.w.length d3) rfl; obtain ⟨e3, ef3⟩ := q2.at_ 3 (x := .slice D4 B.f.length d4) rfl; obtain ⟨e4, ef4⟩ := q2.at_ 4 (x := .int .i64 B.n) rfl; obtain ⟨f0, ff0⟩ := r2.at_ 0 (x := .slice none 0 0) rfl; obtain ⟨f1, ff1⟩ := r2.at_ 1 (x := .slice none 0 0) rfl; obtain ⟨f2, ff2⟩ := r2.at_ 2 (x := .slice none 0 0) rfl; obtain ⟨f3, ff3⟩ := r2.at_ 3 (x := .slice none 0 0) rfl; obtain ⟨f4, ff4⟩ := r2.at_ 4 (x := .int .i64 0) rfl)
    | (go_at_call 66; refine (l01In t 0 4 _).mono ?_; rintro e w' ⟨rfl, rfl⟩; rw [HV2.out])
    | (go_at_call_of 67 (Value.slice A1 B.l.length c1 : Value); refine (l01Has _ B.l x _ (HRW.out.below hB2).l).mono ?_; rintro e w' ⟨rfl, rfl⟩; rw [HV3.out])
    | (go_at_call 78; refine (spec_HeldBy _ _ _ _ B t _ (HRW.out.below hB2) (by have := HSZ.out; omega)).mono ?_; rintro e w3 ⟨v7, bs7, rfl, ho7, lo7, hb3⟩; obtain ⟨D7, d7, rfl, -, -⟩ := ho7.slice; have k3 := k2.below hb3 k2.lt; have r3 := r2.below hb3 r2.lt; have q3 := q2.below hb3 q2.lt; have hO3 := hO2.below hb3; have hB3 := hB2.trans (hb3.mono hB2.size); obtain ⟨eb0, ebf0⟩ := q3.at_ 0 (x := .slice D1 B.l.length d1) rfl; obtain ⟨eb1, ebf1⟩ := q3.at_ 1 (x := .slice D2 B.h.length d2) rfl; obtain ⟨eb2, ebf2⟩ := q3.at_ 2 (x := .slice D3 B.w.length d3) rfl; obtain ⟨eb3, ebf3⟩ := q3.at_ 3 (x := .slice D4 B.f.length d4) rfl; obtain ⟨eb4, ebf4⟩ := q3.at_ 4 (x := .int .i64 B.n) rfl; obtain ⟨fb0, fbf0⟩ := r3.at_ 0 (x := .slice none 0 0) rfl; obtain ⟨fb1, fbf1⟩ := r3.at_ 1 (x := .slice none 0 0) rfl; obtain ⟨fb2, fbf2⟩ := r3.at_ 2 (x := .slice none 0 0) rfl; obtain ⟨fb3, fbf3⟩ := r3.at_ 3 (x := .slice none 0 0) rfl; obtain ⟨fb4, fbf4⟩ := r3.at_ 4 (x := .int .i64 0) rfl)
    | (go_at_call 67; refine (l01Has _ (heldF B t) x _ ho7.rd).mono ?_; rintro e w' ⟨rfl, rfl⟩; rw [HV4.out])
    | (at_builtin; refine wpList_append_own_at _ rfl _ _ 29 rfl W0.heap.size 92 i (.agg #[.int .i64 0, .int .i64 0]) 2 16 Try.underlying29 hi hiz0 hiz1 hiz2 rfl (by decide) _ _ _ rfl (hO3.h.alloc _) ⟨w3.heap.size, 0, none⟩ 1 1 [.int .i64 t, .int .i64 x] rfl rfl (new_cells _ _ _) (by simp [Value.oneCell']) (by unfold maxLen; omega) (by omega) (by have := hb3.size; have := hb2.size; simp; omega) ?_; intro v9 w9 h9 hg9 _ hloc; obtain ⟨A9, c9, rfl⟩ := owns_form' h9; have q9 := (q3.alloc (.cells #[.int .i64 t, .int .i64 x] 92)).grownO hg9 HN1.out.2.1; obtain ⟨e5, ef5⟩ := q9.at_ 1 (x := .slice D2 B.h.length d2) rfl))
  have r9 := (r3.alloc (.cells #[.int .i64 t, .int .i64 x] 92)).grownO hg9 (hO3.neLow (by omega)).2.1
  have hOA := hO3.below ((Below.refl _ _).alloc (Nat.le_refl _) (.cells #[.int .i64 t, .int .i64 x] 92))
  have hs3 : w1.heap.size < w3.heap.size := q3.lt
  have hO9 : OwnBT w9 W0.heap.size (.slice D1 B.l.length d1) (.slice A9 (B.h.length + 1) c9) (.slice D3 B.w.length d3) (.slice D4 B.f.length d4) (takeBn B t x) := by
    rw [HY.out.1]
    exact hOA.putH (by rw [show flc2 (B.h ++ [⟨t, x⟩]) = flc2 B.h ++ [.int .i64 t, .int .i64 x] from flc2_append _ _]; simpa using h9) hg9 hloc rfl rfl rfl
  have hN9 : NeB w1.heap.size (.slice D1 B.l.length d1) (.slice A9 (B.h.length + 1) c9) (.slice D3 B.w.length d3) (.slice D4 B.f.length d4) := ⟨HN1.out.1, ne_new HN1.out.2.1 hloc (by simp; omega), HN1.out.2.2⟩
  have hB9 := (hB3.alloc hB3.size (.cells #[.int .i64 t, .int .i64 x] 92)).grown hg9 (by have := hB3.size; simp; omega) (fun k hk => by have := (hO3.h.lt k hk).1; omega)
  have q4 := q9.set_ 1 (.slice A9 (B.h.length + 1) c9)
  have r4 := r9.far (p := ⟨w1.heap.size, 1, none⟩) (by simp; omega) (.slice A9 (B.h.length + 1) c9)
  have hO4 := hO9.only1 hN9 (Only.setCell w9 (i := 1) (.slice A9 (B.h.length + 1) c9))
  have hB4 := hB9.setCell (p := ⟨w1.heap.size, 1, none⟩) (by show w.heap.size ≤ w1.heap.size; omega) (.slice A9 (B.h.length + 1) c9)
  obtain ⟨W4, hW4⟩ : ∃ W4, W4 = w9.setCell ⟨w1.heap.size, 1, none⟩ (.slice A9 (B.h.length + 1) c9) := ⟨_, rfl⟩
  rw [← hW4] at q4 r4 hO4 hB4 ⊢
  have HFIN := Lib.hid (And.intro r4 (And.intro hO4 hB4))
  obtain ⟨g0, gf0⟩ := q4.at_ 0 (x := .slice D1 B.l.length d1) rfl
  obtain ⟨g1, gf1⟩ := q4.at_ 1 (x := .slice A9 (B.h.length + 1) c9) rfl
  obtain ⟨g2, gf2⟩ := q4.at_ 2 (x := .slice D3 B.w.length d3) rfl
  obtain ⟨g3, gf3⟩ := q4.at_ 3 (x := .slice D4 B.f.length d4) rfl
  obtain ⟨g4, gf4⟩ := q4.at_ 4 (x := .int .i64 B.n) rfl
  obtain ⟨h0, hf0⟩ := r4.at_ 0 (x := .slice none 0 0) rfl
  obtain ⟨h1, hf1⟩ := r4.at_ 1 (x := .slice none 0 0) rfl
  obtain ⟨h2, hf2⟩ := r4.at_ 2 (x := .slice none 0 0) rfl
  obtain ⟨h3, hf3⟩ := r4.at_ 3 (x := .slice none 0 0) rfl
  obtain ⟨h4, hf4⟩ := r4.at_ 4 (x := .int .i64 0) rfl
  clear hW4 q4 r4 hO4 hB4 q9 r9 hOA hO9 hB9 h9 hg9 hloc e5 ef5 q2 r2 k2 q3 r3 k3 hO2 hO3 hB2 hB3 hb2 hb3 n0 n1 n2 n3 n4 nf0 nf1 nf2 nf3 nf4 e0 e1 e2 e3 e4 ef0 ef1 ef2 ef3 ef4 f0 f1 f2 f3 f4 ff0 ff1 ff2 ff3 ff4 eb0 eb1 eb2 eb3 eb4 ebf0 ebf1 ebf2 ebf3 ebf4 fb0 fb1 fb2 fb3 fb4 fbf0 fbf1 fbf2 fbf3 fbf4 t0 t1 t2 t3 t4
  go_wp2_with fail
  obtain ⟨r4, hO4, hB4⟩ := HFIN.out
  have qF := r4.set5 (.slice D1 B.l.length d1) (.slice A9 (B.h.length + 1) c9) (.slice D3 B.w.length d3) (.slice D4 B.f.length d4) (.int .i64 B.n)
  obtain ⟨zz0, -⟩ := qF.at_ 0 (x := .slice D1 B.l.length d1) rfl
  obtain ⟨zz1, -⟩ := qF.at_ 1 (x := .slice A9 (B.h.length + 1) c9) rfl
  obtain ⟨zz2, -⟩ := qF.at_ 2 (x := .slice D3 B.w.length d3) rfl
  obtain ⟨zz3, -⟩ := qF.at_ 3 (x := .slice D4 B.f.length d4) rfl
  obtain ⟨zz4, -⟩ := qF.at_ 4 (x := .int .i64 B.n) rfl
  refine bodyPost_ret (v := .tuple #[.agg #[.slice D1 B.l.length d1, .slice A9 (B.h.length + 1) c9, .slice D3 B.w.length d3, .slice D4 B.f.length d4, .int .i64 B.n], .bool true]) (by simp [results, Try.results40, go_sem, zz0, zz1, zz2, zz3, zz4]) rfl ?_
  have hR := (hO4.only1 (hO4.neLow (by omega)) (only_set5 _ (w.heap.size + 1) (.slice D1 B.l.length d1) (.slice A9 (B.h.length + 1) c9) (.slice D3 B.w.length d3) (.slice D4 B.f.length d4) (.int .i64 B.n))).ret (w := w) (x := .bool true) (by omega) (below_set5 hB4 (Nat.le_succ _) (.slice D1 B.l.length d1) (.slice A9 (B.h.length + 1) c9) (.slice D3 B.w.length d3) (.slice D4 B.f.length d4) (.int .i64 B.n))
  rw [show (takeBn B t x).n = B.n by rw [HY.out.1]] at hR
  rw [HY.out.2]
  exact hR
set_option maxHeartbeats 3200000 in
theorem impl_TakeHold (a b c d : Value) (B : Bn) (t x : Int) (w : World) (r : RdBn w a b c d B) (hw : BnR B) (hsz : szBn B ≤ 16777215) :
    Calls Try.prog 41 #[.agg #[a, b, c, d, .int .i64 B.n], .int .i64 t, .int .i64 x] w (RetBnV (takeBn B t x) (.bool (takeOk B t x)) w) := by
  obtain ⟨A1, c1, A2, c2, A3, c3, A4, c4, ⟨rfl, rfl, rfl, rfl⟩, -, -⟩ := r.slices
  obtain ⟨i, hi, hiz0, hiz1, hiz2⟩ := info_parts infoHold
  have hll : (B.l.length ≤ 16777215 ∧ B.h.length ≤ 16777215) ∧ B.w.length ≤ 16777215 ∧ B.f.length ≤ 16777215 := by unfold szBn at hsz; omega
  obtain ⟨W0, hW0⟩ : ∃ W0, W0 = (w.alloc (.cells #[.slice A1 B.l.length c1, .slice A2 B.h.length c2, .slice A3 B.w.length c3, .slice A4 B.f.length c4, .int .i64 B.n] 31)).alloc (.cells #[.slice none 0 0, .slice none 0 0, .slice none 0 0, .slice none 0 0, .int .i64 0] 31) := ⟨_, rfl⟩
  have hB0 := ((Below.refl w.heap.size w).alloc (Nat.le_refl _) (.cells #[.slice A1 B.l.length c1, .slice A2 B.h.length c2, .slice A3 B.w.length c3, .slice A4 B.f.length c4, .int .i64 B.n] 31)).alloc (by simp) (.cells #[.slice none 0 0, .slice none 0 0, .slice none 0 0, .slice none 0 0, .int .i64 0] 31)
  have k0 := (Bk.new w #[.slice A1 B.l.length c1, .slice A2 B.h.length c2, .slice A3 B.w.length c3, .slice A4 B.f.length c4, .int .i64 B.n] 31).alloc (.cells #[.slice none 0 0, .slice none 0 0, .slice none 0 0, .slice none 0 0, .int .i64 0] 31)
  have r0 := Bk.new (w.alloc (.cells #[.slice A1 B.l.length c1, .slice A2 B.h.length c2, .slice A3 B.w.length c3, .slice A4 B.f.length c4, .int .i64 B.n] 31)) #[.slice none 0 0, .slice none 0 0, .slice none 0 0, .slice none 0 0, .int .i64 0] 31
  simp only [World.size_alloc] at r0
  have hs0 : W0.heap.size = w.heap.size + 2 := by rw [hW0]; simp
  rw [← hW0] at hB0 k0 r0
  have HBO : Hid (∀ W : World, Below w.heap.size w W → Calls Try.prog 58 #[.agg #[.slice A1 B.l.length c1, .slice A2 B.h.length c2, .slice A3 B.w.length c3, .slice A4 B.f.length c4, .int .i64 B.n]] W fun e w' => e = .returned (.bool (bnOk B)) ∧ Below W.heap.size W w') := Lib.hid (fun W hW => impl_BenchOk _ _ _ _ B W (r.below hW) hw (by omega))
  have HC := Lib.hid (copyBenchT _ _ _ _ B W0 (r.below hB0) (by omega))
  have HRW := Lib.hid r
  have HSZ := Lib.hid hsz
  have HW0 := Lib.hid hW0
  have hz0 : w.heap.size + 2 ≤ W0.heap.size := by omega
  have HB0 := Lib.hid hB0
  obtain ⟨y0, -⟩ := k0.at_ 0 (x := .slice A1 B.l.length c1) rfl
  clear hW0 hs0 hB0 r hsz
  go_enter Try.func41, Try.ntmps41
  go_wp2_with fail
  rw [← HW0.out]
  clear y0
  refine HC.out.mono ?_
  rintro e w1 ⟨u1, u2, u3, u4, rfl, hO, hb1⟩
  obtain ⟨D1, d1, rfl⟩ := owns_form' hO.l
  obtain ⟨D2, d2, rfl⟩ := owns_form' hO.h
  obtain ⟨D3, d3, rfl⟩ := owns_form' hO.q
  obtain ⟨D4, d4, rfl⟩ := owns_form' hO.f
  have hz1 := hb1.size
  have k1 := (k0.below hb1 k0.lt).alloc (.cells #[.slice D1 B.l.length d1, .slice D2 B.h.length d2, .slice D3 B.w.length d3, .slice D4 B.f.length d4, .int .i64 B.n] 31)
  have r1 := (r0.below hb1 r0.lt).alloc (.cells #[.slice D1 B.l.length d1, .slice D2 B.h.length d2, .slice D3 B.w.length d3, .slice D4 B.f.length d4, .int .i64 B.n] 31)
  have q1 := Bk.new w1 #[.slice D1 B.l.length d1, .slice D2 B.h.length d2, .slice D3 B.w.length d3, .slice D4 B.f.length d4, .int .i64 B.n] 31
  have hO1 := hO.below ((Below.refl _ _).alloc (Nat.le_refl _) (.cells #[.slice D1 B.l.length d1, .slice D2 B.h.length d2, .slice D3 B.w.length d3, .slice D4 B.f.length d4, .int .i64 B.n] 31))
  have HN1 := Lib.hid (hO.neHigh (g := w1.heap.size) (Nat.le_refl _))
  have hB1 := (HB0.out.trans (hb1.mono HB0.out.size)).alloc (by omega) (.cells #[.slice D1 B.l.length d1, .slice D2 B.h.length d2, .slice D3 B.w.length d3, .slice D4 B.f.length d4, .int .i64 B.n] 31)
  obtain ⟨W1, hW1⟩ : ∃ W1, W1 = (w1.alloc (.cells #[.slice D1 B.l.length d1, .slice D2 B.h.length d2, .slice D3 B.w.length d3, .slice D4 B.f.length d4, .int .i64 B.n] 31)).alloc (.cells #[.int .i64 t, .int .i64 x] 92) := ⟨_, rfl⟩
  have p1 := Bk.new (w1.alloc (.cells #[.slice D1 B.l.length d1, .slice D2 B.h.length d2, .slice D3 B.w.length d3, .slice D4 B.f.length d4, .int .i64 B.n] 31)) #[.int .i64 t, .int .i64 x] 92
  rw [World.size_alloc] at p1
  have k1 := k1.alloc (.cells #[.int .i64 t, .int .i64 x] 92)
  have r1 := r1.alloc (.cells #[.int .i64 t, .int .i64 x] 92)
  have q1 := q1.alloc (.cells #[.int .i64 t, .int .i64 x] 92)
  have hO1 := hO1.below ((Below.refl _ _).alloc (Nat.le_refl _) (.cells #[.int .i64 t, .int .i64 x] 92))
  have hB1 := hB1.alloc hB1.size (.cells #[.int .i64 t, .int .i64 x] 92)
  rw [← hW1] at p1
  rw [← hW1] at k1 r1 q1 hO1 hB1
  have HS1 := Lib.hid (And.intro hO1 (And.intro k1 (And.intro r1 (And.intro q1 (And.intro hB1 p1)))))
  have HBC := Lib.hid (HBO.out _ hB1)
  obtain ⟨t0, -⟩ := k1.at_ 0 (x := .slice A1 B.l.length c1) rfl
  obtain ⟨t1, -⟩ := k1.at_ 1 (x := .slice A2 B.h.length c2) rfl
  obtain ⟨t2, -⟩ := k1.at_ 2 (x := .slice A3 B.w.length c3) rfl
  obtain ⟨t3, -⟩ := k1.at_ 3 (x := .slice A4 B.f.length c4) rfl
  obtain ⟨t4, -⟩ := k1.at_ 4 (x := .int .i64 B.n) rfl
  have HW1 := Lib.hid hW1
  have hgl := q1.lt
  clear k0 r0 hO hb1 hW1 k1 r1 q1 hO1 hB1 p1
  go_upto_region 3 with (fail)
  rw [← HW1.out]
  cases hok : bnOk B
  · have HNO := Lib.hid (takeOk_no (B := B) (t := t) (x := x) (by simp [takeOk, hok]))
    rw [hok] at HBC
    clear hok
    go_wp2_with (go_at_call 58; refine HBC.out.mono ?_; rintro e w2 ⟨rfl, hb2⟩; obtain ⟨hO1, k1, r1, q1, hB1, p1⟩ := HS1.out; have k2 := k1.below hb2 k1.lt; have r2 := r1.below hb2 r1.lt; have q2 := q1.below hb2 q1.lt; have hO2 := hO1.below hb2; have hB2 := hB1.trans (hb2.mono hB1.size); obtain ⟨n0, nf0⟩ := k2.at_ 0 (x := .slice A1 B.l.length c1) rfl; obtain ⟨n1, nf1⟩ := k2.at_ 1 (x := .slice A2 B.h.length c2) rfl; obtain ⟨n2, nf2⟩ := k2.at_ 2 (x := .slice A3 B.w.length c3) rfl; obtain ⟨n3, nf3⟩ := k2.at_ 3 (x := .slice A4 B.f.length c4) rfl; obtain ⟨n4, nf4⟩ := k2.at_ 4 (x := .int .i64 B.n) rfl; obtain ⟨e0, ef0⟩ := q2.at_ 0 (x := .slice D1 B.l.length d1) rfl; obtain ⟨e1, ef1⟩ := q2.at_ 1 (x := .slice D2 B.h.length d2) rfl; obtain ⟨e2, ef2⟩ := q2.at_ 2 (x := .slice D3 B.w.length d3) rfl; obtain ⟨e3, ef3⟩ := q2.at_ 3 (x := .slice D4 B.f.length d4) rfl; obtain ⟨e4, ef4⟩ := q2.at_ 4 (x := .int .i64 B.n) rfl; obtain ⟨f0, ff0⟩ := r2.at_ 0 (x := .slice none 0 0) rfl; obtain ⟨f1, ff1⟩ := r2.at_ 1 (x := .slice none 0 0) rfl; obtain ⟨f2, ff2⟩ := r2.at_ 2 (x := .slice none 0 0) rfl; obtain ⟨f3, ff3⟩ := r2.at_ 3 (x := .slice none 0 0) rfl; obtain ⟨f4, ff4⟩ := r2.at_ 4 (x := .int .i64 0) rfl; have p2 := p1.below hb2 p1.lt; obtain ⟨o0, -⟩ := p2.at_ 0 (x := .int .i64 t) rfl; obtain ⟨o1, -⟩ := p2.at_ 1 (x := .int .i64 x) rfl)
    have qF := r2.set5 (.slice D1 B.l.length d1) (.slice D2 B.h.length d2) (.slice D3 B.w.length d3) (.slice D4 B.f.length d4) (.int .i64 B.n)
    obtain ⟨zz0, -⟩ := qF.at_ 0 (x := .slice D1 B.l.length d1) rfl
    obtain ⟨zz1, -⟩ := qF.at_ 1 (x := .slice D2 B.h.length d2) rfl
    obtain ⟨zz2, -⟩ := qF.at_ 2 (x := .slice D3 B.w.length d3) rfl
    obtain ⟨zz3, -⟩ := qF.at_ 3 (x := .slice D4 B.f.length d4) rfl
    obtain ⟨zz4, -⟩ := qF.at_ 4 (x := .int .i64 B.n) rfl
    refine bodyPost_ret (v := .tuple #[.agg #[.slice D1 B.l.length d1, .slice D2 B.h.length d2, .slice D3 B.w.length d3, .slice D4 B.f.length d4, .int .i64 B.n], .bool false]) (by simp [results, Try.results41, go_sem, zz0, zz1, zz2, zz3, zz4]) rfl ?_
    have hR := (hO2.only1 (hO2.neLow (by omega)) (only_set5 _ (w.heap.size + 1) (.slice D1 B.l.length d1) (.slice D2 B.h.length d2) (.slice D3 B.w.length d3) (.slice D4 B.f.length d4) (.int .i64 B.n))).ret (w := w) (x := .bool false) (by omega) (below_set5 hB2 (Nat.le_succ _) (.slice D1 B.l.length d1) (.slice D2 B.h.length d2) (.slice D3 B.w.length d3) (.slice D4 B.f.length d4) (.int .i64 B.n))
    rw [HNO.out.1, HNO.out.2]
    exact hR
  rw [hok] at HBC
  have HOK := Lib.hid hok
  clear hok
  cases hv2 : inB t 0 (5 - 1)
  · have HNO := Lib.hid (takeOk_no (B := B) (t := t) (x := x) (by have : inB t 0 4 = false := hv2
                                                                  simp [takeOk, this]))
    have HV2 := Lib.hid hv2
    clear hv2
    go_wp2_with (first
    | (go_at_call 58; refine HBC.out.mono ?_; rintro e w2 ⟨rfl, hb2⟩; obtain ⟨hO1, k1, r1, q1, hB1, p1⟩ := HS1.out; have k2 := k1.below hb2 k1.lt; have r2 := r1.below hb2 r1.lt; have q2 := q1.below hb2 q1.lt; have hO2 := hO1.below hb2; have hB2 := hB1.trans (hb2.mono hB1.size); obtain ⟨n0, nf0⟩ := k2.at_ 0 (x := .slice A1 B.l.length c1) rfl; obtain ⟨n1, nf1⟩ := k2.at_ 1 (x := .slice A2 B.h.length c2) rfl; obtain ⟨n2, nf2⟩ := k2.at_ 2 (x := .slice A3 B.w.length c3) rfl; obtain ⟨n3, nf3⟩ := k2.at_ 3 (x := .slice A4 B.f.length c4) rfl; obtain ⟨n4, nf4⟩ := k2.at_ 4 (x := .int .i64 B.n) rfl; obtain ⟨e0, ef0⟩ := q2.at_ 0 (x := .slice D1 B.l.length d1) rfl; obtain ⟨e1, ef1⟩ := q2.at_ 1 (x := .slice D2 B.h.length d2) rfl; obtain ⟨e2, ef2⟩ := q2.at_ 2 (x := .slice D3 B.w.length d3) rfl; obtain ⟨e3, ef3⟩ := q2.at_ 3 (x := .slice D4 B.f.length d4) rfl; obtain ⟨e4, ef4⟩ := q2.at_ 4 (x := .int .i64 B.n) rfl; obtain ⟨f0, ff0⟩ := r2.at_ 0 (x := .slice none 0 0) rfl; obtain ⟨f1, ff1⟩ := r2.at_ 1 (x := .slice none 0 0) rfl; obtain ⟨f2, ff2⟩ := r2.at_ 2 (x := .slice none 0 0) rfl; obtain ⟨f3, ff3⟩ := r2.at_ 3 (x := .slice none 0 0) rfl; obtain ⟨f4, ff4⟩ := r2.at_ 4 (x := .int .i64 0) rfl; have p2 := p1.below hb2 p1.lt; obtain ⟨o0, -⟩ := p2.at_ 0 (x := .int .i64 t) rfl; obtain ⟨o1, -⟩ := p2.at_ 1 (x := .int .i64 x) rfl)
    | (go_at_call 79; refine (impl_indexOk t 5 _).mono ?_; rintro e w' ⟨rfl, rfl⟩; rw [HV2.out]))
    have qF := r2.set5 (.slice D1 B.l.length d1) (.slice D2 B.h.length d2) (.slice D3 B.w.length d3) (.slice D4 B.f.length d4) (.int .i64 B.n)
    obtain ⟨zz0, -⟩ := qF.at_ 0 (x := .slice D1 B.l.length d1) rfl
    obtain ⟨zz1, -⟩ := qF.at_ 1 (x := .slice D2 B.h.length d2) rfl
    obtain ⟨zz2, -⟩ := qF.at_ 2 (x := .slice D3 B.w.length d3) rfl
    obtain ⟨zz3, -⟩ := qF.at_ 3 (x := .slice D4 B.f.length d4) rfl
    obtain ⟨zz4, -⟩ := qF.at_ 4 (x := .int .i64 B.n) rfl
    refine bodyPost_ret (v := .tuple #[.agg #[.slice D1 B.l.length d1, .slice D2 B.h.length d2, .slice D3 B.w.length d3, .slice D4 B.f.length d4, .int .i64 B.n], .bool false]) (by simp [results, Try.results41, go_sem, zz0, zz1, zz2, zz3, zz4]) rfl ?_
    have hR := (hO2.only1 (hO2.neLow (by omega)) (only_set5 _ (w.heap.size + 1) (.slice D1 B.l.length d1) (.slice D2 B.h.length d2) (.slice D3 B.w.length d3) (.slice D4 B.f.length d4) (.int .i64 B.n))).ret (w := w) (x := .bool false) (by omega) (below_set5 hB2 (Nat.le_succ _) (.slice D1 B.l.length d1) (.slice D2 B.h.length d2) (.slice D3 B.w.length d3) (.slice D4 B.f.length d4) (.int .i64 B.n))
    rw [HNO.out.1, HNO.out.2]
    exact hR
  have HV2 := Lib.hid hv2
  clear hv2
  cases hv3 : B.l.any (· == x)
  · have HNO := Lib.hid (takeOk_no (B := B) (t := t) (x := x) (by unfold takeOk; rw [hv3]; simp))
    have HV3 := Lib.hid hv3
    clear hv3
    go_wp2_with (first
    | (go_at_call 58; refine HBC.out.mono ?_; rintro e w2 ⟨rfl, hb2⟩; obtain ⟨hO1, k1, r1, q1, hB1, p1⟩ := HS1.out; have k2 := k1.below hb2 k1.lt; have r2 := r1.below hb2 r1.lt; have q2 := q1.below hb2 q1.lt; have hO2 := hO1.below hb2; have hB2 := hB1.trans (hb2.mono hB1.size); obtain ⟨n0, nf0⟩ := k2.at_ 0 (x := .slice A1 B.l.length c1) rfl; obtain ⟨n1, nf1⟩ := k2.at_ 1 (x := .slice A2 B.h.length c2) rfl; obtain ⟨n2, nf2⟩ := k2.at_ 2 (x := .slice A3 B.w.length c3) rfl; obtain ⟨n3, nf3⟩ := k2.at_ 3 (x := .slice A4 B.f.length c4) rfl; obtain ⟨n4, nf4⟩ := k2.at_ 4 (x := .int .i64 B.n) rfl; obtain ⟨e0, ef0⟩ := q2.at_ 0 (x := .slice D1 B.l.length d1) rfl; obtain ⟨e1, ef1⟩ := q2.at_ 1 (x := .slice D2 B.h.length d2) rfl; obtain ⟨e2, ef2⟩ := q2.at_ 2 (x := .slice D3 B.w.length d3) rfl; obtain ⟨e3, ef3⟩ := q2.at_ 3 (x := .slice D4 B.f.length d4) rfl; obtain ⟨e4, ef4⟩ := q2.at_ 4 (x := .int .i64 B.n) rfl; obtain ⟨f0, ff0⟩ := r2.at_ 0 (x := .slice none 0 0) rfl; obtain ⟨f1, ff1⟩ := r2.at_ 1 (x := .slice none 0 0) rfl; obtain ⟨f2, ff2⟩ := r2.at_ 2 (x := .slice none 0 0) rfl; obtain ⟨f3, ff3⟩ := r2.at_ 3 (x := .slice none 0 0) rfl; obtain ⟨f4, ff4⟩ := r2.at_ 4 (x := .int .i64 0) rfl; have p2 := p1.below hb2 p1.lt; obtain ⟨o0, -⟩ := p2.at_ 0 (x := .int .i64 t) rfl; obtain ⟨o1, -⟩ := p2.at_ 1 (x := .int .i64 x) rfl)
    | (go_at_call 79; refine (impl_indexOk t 5 _).mono ?_; rintro e w' ⟨rfl, rfl⟩; rw [HV2.out])
    | (go_at_call 80; refine (containsI _ B.l x _ (HRW.out.below hB2).l).mono ?_; rintro e w' ⟨rfl, rfl⟩; rw [HV3.out]))
    have qF := r2.set5 (.slice D1 B.l.length d1) (.slice D2 B.h.length d2) (.slice D3 B.w.length d3) (.slice D4 B.f.length d4) (.int .i64 B.n)
    obtain ⟨zz0, -⟩ := qF.at_ 0 (x := .slice D1 B.l.length d1) rfl
    obtain ⟨zz1, -⟩ := qF.at_ 1 (x := .slice D2 B.h.length d2) rfl
    obtain ⟨zz2, -⟩ := qF.at_ 2 (x := .slice D3 B.w.length d3) rfl
    obtain ⟨zz3, -⟩ := qF.at_ 3 (x := .slice D4 B.f.length d4) rfl
    obtain ⟨zz4, -⟩ := qF.at_ 4 (x := .int .i64 B.n) rfl
    refine bodyPost_ret (v := .tuple #[.agg #[.slice D1 B.l.length d1, .slice D2 B.h.length d2, .slice D3 B.w.length d3, .slice D4 B.f.length d4, .int .i64 B.n], .bool false]) (by simp [results, Try.results41, go_sem, zz0, zz1, zz2, zz3, zz4]) rfl ?_
    have hR := (hO2.only1 (hO2.neLow (by omega)) (only_set5 _ (w.heap.size + 1) (.slice D1 B.l.length d1) (.slice D2 B.h.length d2) (.slice D3 B.w.length d3) (.slice D4 B.f.length d4) (.int .i64 B.n))).ret (w := w) (x := .bool false) (by omega) (below_set5 hB2 (Nat.le_succ _) (.slice D1 B.l.length d1) (.slice D2 B.h.length d2) (.slice D3 B.w.length d3) (.slice D4 B.f.length d4) (.int .i64 B.n))
    rw [HNO.out.1, HNO.out.2]
    exact hR
  have HV3 := Lib.hid hv3
  clear hv3
  cases hv4 : decide ((⟨t, x⟩ : P2) ∈ B.h)
  case true =>
    have HNO := Lib.hid (takeOk_no (B := B) (t := t) (x := x) (by unfold takeOk; rw [hv4]; simp))
    have HV4 := Lib.hid hv4
    clear hv4
    go_wp2_with (first
    | (go_at_call 58; refine HBC.out.mono ?_; rintro e w2 ⟨rfl, hb2⟩; obtain ⟨hO1, k1, r1, q1, hB1, p1⟩ := HS1.out; have k2 := k1.below hb2 k1.lt; have r2 := r1.below hb2 r1.lt; have q2 := q1.below hb2 q1.lt; have hO2 := hO1.below hb2; have hB2 := hB1.trans (hb2.mono hB1.size); obtain ⟨n0, nf0⟩ := k2.at_ 0 (x := .slice A1 B.l.length c1) rfl; obtain ⟨n1, nf1⟩ := k2.at_ 1 (x := .slice A2 B.h.length c2) rfl; obtain ⟨n2, nf2⟩ := k2.at_ 2 (x := .slice A3 B.w.length c3) rfl; obtain ⟨n3, nf3⟩ := k2.at_ 3 (x := .slice A4 B.f.length c4) rfl; obtain ⟨n4, nf4⟩ := k2.at_ 4 (x := .int .i64 B.n) rfl; obtain ⟨e0, ef0⟩ := q2.at_ 0 (x := .slice D1 B.l.length d1) rfl; obtain ⟨e1, ef1⟩ := q2.at_ 1 (x := .slice D2 B.h.length d2) rfl; obtain ⟨e2, ef2⟩ := q2.at_ 2 (x := .slice D3 B.w.length d3) rfl; obtain ⟨e3, ef3⟩ := q2.at_ 3 (x := .slice D4 B.f.length d4) rfl; obtain ⟨e4, ef4⟩ := q2.at_ 4 (x := .int .i64 B.n) rfl; obtain ⟨f0, ff0⟩ := r2.at_ 0 (x := .slice none 0 0) rfl; obtain ⟨f1, ff1⟩ := r2.at_ 1 (x := .slice none 0 0) rfl; obtain ⟨f2, ff2⟩ := r2.at_ 2 (x := .slice none 0 0) rfl; obtain ⟨f3, ff3⟩ := r2.at_ 3 (x := .slice none 0 0) rfl; obtain ⟨f4, ff4⟩ := r2.at_ 4 (x := .int .i64 0) rfl; have p2 := p1.below hb2 p1.lt; obtain ⟨o0, -⟩ := p2.at_ 0 (x := .int .i64 t) rfl; obtain ⟨o1, -⟩ := p2.at_ 1 (x := .int .i64 x) rfl)
    | (go_at_call 79; refine (impl_indexOk t 5 _).mono ?_; rintro e w' ⟨rfl, rfl⟩; rw [HV2.out])
    | (go_at_call 80; refine (containsI _ B.l x _ (HRW.out.below hB2).l).mono ?_; rintro e w' ⟨rfl, rfl⟩; rw [HV3.out])
    | (go_at_call 81; refine (containsH _ B.h ⟨t, x⟩ _ (HRW.out.below hB2).h).mono ?_; rintro e w3 ⟨rfl, hb3⟩; rw [HV4.out]; have k3 := k2.below hb3 k2.lt; have r3 := r2.below hb3 r2.lt; have q3 := q2.below hb3 q2.lt; have hO3 := hO2.below hb3; have hB3 := hB2.trans (hb3.mono hB2.size); obtain ⟨eb0, ebf0⟩ := q3.at_ 0 (x := .slice D1 B.l.length d1) rfl; obtain ⟨eb1, ebf1⟩ := q3.at_ 1 (x := .slice D2 B.h.length d2) rfl; obtain ⟨eb2, ebf2⟩ := q3.at_ 2 (x := .slice D3 B.w.length d3) rfl; obtain ⟨eb3, ebf3⟩ := q3.at_ 3 (x := .slice D4 B.f.length d4) rfl; obtain ⟨eb4, ebf4⟩ := q3.at_ 4 (x := .int .i64 B.n) rfl; obtain ⟨fb0, fbf0⟩ := r3.at_ 0 (x := .slice none 0 0) rfl; obtain ⟨fb1, fbf1⟩ := r3.at_ 1 (x := .slice none 0 0) rfl; obtain ⟨fb2, fbf2⟩ := r3.at_ 2 (x := .slice none 0 0) rfl; obtain ⟨fb3, fbf3⟩ := r3.at_ 3 (x := .slice none 0 0) rfl; obtain ⟨fb4, fbf4⟩ := r3.at_ 4 (x := .int .i64 0) rfl; have p3 := p2.below hb3 p2.lt; obtain ⟨ob0, -⟩ := p3.at_ 0 (x := .int .i64 t) rfl; obtain ⟨ob1, -⟩ := p3.at_ 1 (x := .int .i64 x) rfl))
    have qF := r3.set5 (.slice D1 B.l.length d1) (.slice D2 B.h.length d2) (.slice D3 B.w.length d3) (.slice D4 B.f.length d4) (.int .i64 B.n)
    obtain ⟨zz0, -⟩ := qF.at_ 0 (x := .slice D1 B.l.length d1) rfl
    obtain ⟨zz1, -⟩ := qF.at_ 1 (x := .slice D2 B.h.length d2) rfl
    obtain ⟨zz2, -⟩ := qF.at_ 2 (x := .slice D3 B.w.length d3) rfl
    obtain ⟨zz3, -⟩ := qF.at_ 3 (x := .slice D4 B.f.length d4) rfl
    obtain ⟨zz4, -⟩ := qF.at_ 4 (x := .int .i64 B.n) rfl
    refine bodyPost_ret (v := .tuple #[.agg #[.slice D1 B.l.length d1, .slice D2 B.h.length d2, .slice D3 B.w.length d3, .slice D4 B.f.length d4, .int .i64 B.n], .bool false]) (by simp [results, Try.results41, go_sem, zz0, zz1, zz2, zz3, zz4]) rfl ?_
    have hR := (hO3.only1 (hO3.neLow (by omega)) (only_set5 _ (w.heap.size + 1) (.slice D1 B.l.length d1) (.slice D2 B.h.length d2) (.slice D3 B.w.length d3) (.slice D4 B.f.length d4) (.int .i64 B.n))).ret (w := w) (x := .bool false) (by omega) (below_set5 hB3 (Nat.le_succ _) (.slice D1 B.l.length d1) (.slice D2 B.h.length d2) (.slice D3 B.w.length d3) (.slice D4 B.f.length d4) (.int .i64 B.n))
    rw [HNO.out.1, HNO.out.2]
    exact hR
  have hyes : takeOk B t x = true := by
    skip
    have h2 : inB t 0 4 = true := HV2.out
    unfold takeOk
    rw [HOK.out, h2, HV3.out, hv4]
    rfl
  have HV4 := Lib.hid hv4
  clear hv4
  have HY := Lib.hid (takeOk_yes (B := B) (t := t) (x := x) hyes)
  clear hyes
  go_upto_region 6 with (first
    | (go_at_call 58; refine HBC.out.mono ?_; rintro e w2 ⟨rfl, hb2⟩; obtain ⟨hO1, k1, r1, q1, hB1, p1⟩ := HS1.out; have k2 := k1.below hb2 k1.lt; have r2 := r1.below hb2 r1.lt; have q2 := q1.below hb2 q1.lt; have hO2 := hO1.below hb2; have hB2 := hB1.trans (hb2.mono hB1.size); obtain ⟨n0, nf0⟩ := k2.at_ 0 (x := .slice A1 B.l.length c1) rfl; obtain ⟨n1, nf1⟩ := k2.at_ 1 (x := .slice A2 B.h.length c2) rfl; obtain ⟨n2, nf2⟩ := k2.at_ 2 (x := .slice A3 B.w.length c3) rfl; obtain ⟨n3, nf3⟩ := k2.at_ 3 (x := .slice A4 B.f.length c4) rfl; obtain ⟨n4, nf4⟩ := k2.at_ 4 (x := .int .i64 B.n) rfl; obtain ⟨e0, ef0⟩ := q2.at_ 0 (x := .slice D1 B.l.length d1) rfl; obtain ⟨e1, ef1⟩ := q2.at_ 1 (x := .slice D2 B.h.length d2) rfl; obtain ⟨e2, ef2⟩ := q2.at_ 2 (x := .slice D3 B.w.length d3) rfl; obtain ⟨e3, ef3⟩ := q2.at_ 3 (x := .slice D4 B.f.length d4) rfl; obtain ⟨e4, ef4⟩ := q2.at_ 4 (x := .int .i64 B.n) rfl; obtain ⟨f0, ff0⟩ := r2.at_ 0 (x := .slice none 0 0) rfl; obtain ⟨f1, ff1⟩ := r2.at_ 1 (x := .slice none 0 0) rfl; obtain ⟨f2, ff2⟩ := r2.at_ 2 (x := .slice none 0 0) rfl; obtain ⟨f3, ff3⟩ := r2.at_ 3 (x := .slice none 0 0) rfl; obtain ⟨f4, ff4⟩ := r2.at_ 4 (x := .int .i64 0) rfl; have p2 := p1.below hb2 p1.lt; obtain ⟨o0, -⟩ := p2.at_ 0 (x := .int .i64 t) rfl; obtain ⟨o1, -⟩ := p2.at_ 1 (x := .int .i64 x) rfl)
    | (go_at_call 79; refine (impl_indexOk t 5 _).mono ?_; rintro e w' ⟨rfl, rfl⟩; rw [HV2.out])
    | (go_at_call 80; refine (containsI _ B.l x _ (HRW.out.below hB2).l).mono ?_; rintro e w' ⟨rfl, rfl⟩; rw [HV3.out])
    | (go_at_call 81; refine (containsH _ B.h ⟨t, x⟩ _ (HRW.out.below hB2).h).mono ?_; rintro e w3 ⟨rfl, hb3⟩; rw [HV4.out]; have k3 := k2.below hb3 k2.lt; have r3 := r2.below hb3 r2.lt; have q3 := q2.below hb3 q2.lt; have hO3 := hO2.below hb3; have hB3 := hB2.trans (hb3.mono hB2.size); obtain ⟨eb0, ebf0⟩ := q3.at_ 0 (x := .slice D1 B.l.length d1) rfl; obtain ⟨eb1, ebf1⟩ := q3.at_ 1 (x := .slice D2 B.h.length d2) rfl; obtain ⟨eb2, ebf2⟩ := q3.at_ 2 (x := .slice D3 B.w.length d3) rfl; obtain ⟨eb3, ebf3⟩ := q3.at_ 3 (x := .slice D4 B.f.length d4) rfl; obtain ⟨eb4, ebf4⟩ := q3.at_ 4 (x := .int .i64 B.n) rfl; obtain ⟨fb0, fbf0⟩ := r3.at_ 0 (x := .slice none 0 0) rfl; obtain ⟨fb1, fbf1⟩ := r3.at_ 1 (x := .slice none 0 0) rfl; obtain ⟨fb2, fbf2⟩ := r3.at_ 2 (x := .slice none 0 0) rfl; obtain ⟨fb3, fbf3⟩ := r3.at_ 3 (x := .slice none 0 0) rfl; obtain ⟨fb4, fbf4⟩ := r3.at_ 4 (x := .int .i64 0) rfl; have p3 := p2.below hb3 p2.lt; obtain ⟨ob0, -⟩ := p3.at_ 0 (x := .int .i64 t) rfl; obtain ⟨ob1, -⟩ := p3.at_ 1 (x := .int .i64 x) rfl)
    | (at_builtin; refine wpList_append_own_at _ rfl _ _ 29 rfl W0.heap.size 92 i (.agg #[.int .i64 0, .int .i64 0]) 2 16 Try.underlying29 hi hiz0 hiz1 hiz2 rfl (by decide) _ _ _ rfl (hO3.h.alloc _) ⟨w3.heap.size, 0, none⟩ 1 1 [.int .i64 t, .int .i64 x] rfl rfl (new_cells _ _ _) (by simp [Value.oneCell']) (by unfold maxLen; omega) (by omega) (by have := hb3.size; have := hb2.size; simp; omega) ?_; intro v9 w9 h9 hg9 _ hloc; obtain ⟨A9, c9, rfl⟩ := owns_form' h9; have q9 := (q3.alloc (.cells #[.int .i64 t, .int .i64 x] 92)).grownO hg9 HN1.out.2.1; obtain ⟨e5, ef5⟩ := q9.at_ 1 (x := .slice D2 B.h.length d2) rfl))
  have r9 := (r3.alloc (.cells #[.int .i64 t, .int .i64 x] 92)).grownO hg9 (hO3.neLow (by omega)).2.1
  have hOA := hO3.below ((Below.refl _ _).alloc (Nat.le_refl _) (.cells #[.int .i64 t, .int .i64 x] 92))
  have hs3 : w1.heap.size < w3.heap.size := q3.lt
  have hO9 : OwnBT w9 W0.heap.size (.slice D1 B.l.length d1) (.slice A9 (B.h.length + 1) c9) (.slice D3 B.w.length d3) (.slice D4 B.f.length d4) (takeBn B t x) := by
    rw [HY.out.1]
    exact hOA.putH (by rw [show flc2 (B.h ++ [⟨t, x⟩]) = flc2 B.h ++ [.int .i64 t, .int .i64 x] from flc2_append _ _]; simpa using h9) hg9 hloc rfl rfl rfl
  have hN9 : NeB w1.heap.size (.slice D1 B.l.length d1) (.slice A9 (B.h.length + 1) c9) (.slice D3 B.w.length d3) (.slice D4 B.f.length d4) := ⟨HN1.out.1, ne_new HN1.out.2.1 hloc (by simp; omega), HN1.out.2.2⟩
  have hB9 := (hB3.alloc hB3.size (.cells #[.int .i64 t, .int .i64 x] 92)).grown hg9 (by have := hB3.size; simp; omega) (fun k hk => by have := (hO3.h.lt k hk).1; omega)
  have q4 := q9.set_ 1 (.slice A9 (B.h.length + 1) c9)
  have r4 := r9.far (p := ⟨w1.heap.size, 1, none⟩) (by simp; omega) (.slice A9 (B.h.length + 1) c9)
  have hO4 := hO9.only1 hN9 (Only.setCell w9 (i := 1) (.slice A9 (B.h.length + 1) c9))
  have hB4 := hB9.setCell (p := ⟨w1.heap.size, 1, none⟩) (by show w.heap.size ≤ w1.heap.size; omega) (.slice A9 (B.h.length + 1) c9)
  obtain ⟨W4, hW4⟩ : ∃ W4, W4 = w9.setCell ⟨w1.heap.size, 1, none⟩ (.slice A9 (B.h.length + 1) c9) := ⟨_, rfl⟩
  rw [← hW4] at q4 r4 hO4 hB4 ⊢
  have HFIN := Lib.hid (And.intro r4 (And.intro hO4 hB4))
  obtain ⟨g0, gf0⟩ := q4.at_ 0 (x := .slice D1 B.l.length d1) rfl
  obtain ⟨g1, gf1⟩ := q4.at_ 1 (x := .slice A9 (B.h.length + 1) c9) rfl
  obtain ⟨g2, gf2⟩ := q4.at_ 2 (x := .slice D3 B.w.length d3) rfl
  obtain ⟨g3, gf3⟩ := q4.at_ 3 (x := .slice D4 B.f.length d4) rfl
  obtain ⟨g4, gf4⟩ := q4.at_ 4 (x := .int .i64 B.n) rfl
  obtain ⟨h0, hf0⟩ := r4.at_ 0 (x := .slice none 0 0) rfl
  obtain ⟨h1, hf1⟩ := r4.at_ 1 (x := .slice none 0 0) rfl
  obtain ⟨h2, hf2⟩ := r4.at_ 2 (x := .slice none 0 0) rfl
  obtain ⟨h3, hf3⟩ := r4.at_ 3 (x := .slice none 0 0) rfl
  obtain ⟨h4, hf4⟩ := r4.at_ 4 (x := .int .i64 0) rfl
  clear hW4 q4 r4 hO4 hB4 q9 r9 hOA hO9 hB9 h9 hg9 hloc e5 ef5 q2 r2 k2 q3 r3 k3 hO2 hO3 hB2 hB3 hb2 hb3 n0 n1 n2 n3 n4 nf0 nf1 nf2 nf3 nf4 e0 e1 e2 e3 e4 ef0 ef1 ef2 ef3 ef4 f0 f1 f2 f3 f4 ff0 ff1 ff2 ff3 ff4 eb0 eb1 eb2 eb3 eb4 ebf0 ebf1 ebf2 ebf3 ebf4 fb0 fb1 fb2 fb3 fb4 fbf0 fbf1 fbf2 fbf3 fbf4 t0 t1 t2 t3 t4
  go_wp2_with fail
  obtain ⟨r4, hO4, hB4⟩ := HFIN.out
  have qF := r4.set5 (.slice D1 B.l.length d1) (.slice A9 (B.h.length + 1) c9) (.slice D3 B.w.length d3) (.slice D4 B.f.length d4) (.int .i64 B.n)
  obtain ⟨zz0, -⟩ := qF.at_ 0 (x := .slice D1 B.l.length d1) rfl
  obtain ⟨zz1, -⟩ := qF.at_ 1 (x := .slice A9 (B.h.length + 1) c9) rfl
  obtain ⟨zz2, -⟩ := qF.at_ 2 (x := .slice D3 B.w.length d3) rfl
  obtain ⟨zz3, -⟩ := qF.at_ 3 (x := .slice D4 B.f.length d4) rfl
  obtain ⟨zz4, -⟩ := qF.at_ 4 (x := .int .i64 B.n) rfl
  refine bodyPost_ret (v := .tuple #[.agg #[.slice D1 B.l.length d1, .slice A9 (B.h.length + 1) c9, .slice D3 B.w.length d3, .slice D4 B.f.length d4, .int .i64 B.n], .bool true]) (by simp [results, Try.results41, go_sem, zz0, zz1, zz2, zz3, zz4]) rfl ?_
  have hR := (hO4.only1 (hO4.neLow (by omega)) (only_set5 _ (w.heap.size + 1) (.slice D1 B.l.length d1) (.slice A9 (B.h.length + 1) c9) (.slice D3 B.w.length d3) (.slice D4 B.f.length d4) (.int .i64 B.n))).ret (w := w) (x := .bool true) (by omega) (below_set5 hB4 (Nat.le_succ _) (.slice D1 B.l.length d1) (.slice A9 (B.h.length + 1) c9) (.slice D3 B.w.length d3) (.slice D4 B.f.length d4) (.int .i64 B.n))
  rw [show (takeBn B t x).n = B.n by rw [HY.out.1]] at hR
  rw [HY.out.2]
  exact hR
end Go.Proofs.Ytiamkgkhamnaeaa
