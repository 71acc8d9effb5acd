/- The text of a bench: contracts of BenchText (packages impl and spec). The program's asks for the library's table of powers of ten. Conditions: the bench's rows can be read and hold numbers of 64 bits; lengths that a law bounds. -/
import Derived.Test.YtiamkgkhamnaeaaDoorTB
namespace Go.Proofs.YtiamkgkhamnaeaaDoor
set_option maxRecDepth 20000
set_option linter.unusedSimpArgs false
set_option linter.unusedVariables false
open Go.ChangeShapes Go.WideShapes Go.ChangeAt Go.RowKit
set_option linter.unusedVariables false
theorem bench_rng {B : Bn} (h : bnOk B = true) : (∀ x ∈ B.l, 0 ≤ x ∧ x ≤ 61) ∧ (∀ x ∈ B.w, 0 ≤ x ∧ x ≤ 61) ∧ (∀ x ∈ B.f, 0 ≤ x ∧ x ≤ 61) ∧ ∀ e ∈ B.h, (0 ≤ e.a ∧ e.a ≤ 4) ∧ 0 ≤ e.b ∧ e.b ≤ 61 := by
  have ho := bnOk_iff.1 h
  have hq : ∀ x ∈ allBn B, 0 ≤ x ∧ x ≤ 61 := fun x hx => by
    have := ho.2.1.2.2 x hx
    have := ho.1
    omega
  refine ⟨fun x hx => hq x (by unfold allBn; simp [hx]), fun x hx => hq x (by unfold allBn; simp [hx]), fun x hx => hq x (by unfold allBn; simp [hx]), fun e he => ?_⟩
  have := ho.2.2.2.1 e he
  have := ho.1
  omega
theorem benchT_join (B : Bn) : Lib.join [nmT sLinked (B.l.map Lib.itoa), nmT sHeld (B.h.map holdT), nmT sWaiting (B.w.map Lib.itoa), nmT sFreed (B.f.map Lib.itoa)] [32] = benchT B := by
  rw [Lib.join_cons]
  simp [Lib.joinTail, benchT]
theorem named_len {B : Bn} (h : bnOk B = true) : (nmT sLinked (B.l.map Lib.itoa)).length ≤ 1300 ∧ (nmT sHeld (B.h.map holdT)).length ≤ 12700 ∧ (nmT sWaiting (B.w.map Lib.itoa)).length ≤ 1300 ∧ (nmT sFreed (B.f.map Lib.itoa)).length ≤ 1300 := by
  have hs := bnOk_small (bnOk_iff.1 h)
  have hh := bnOk_held (bnOk_iff.1 h)
  obtain ⟨r1, r2, r3, r4⟩ := bench_rng h
  have e : ∀ {name : List UInt8} {xs : List Int}, (∀ x ∈ xs, 0 ≤ x ∧ x ≤ 61) → xs.length ≤ 60 → name.length ≤ 8 → (nmT name (xs.map Lib.itoa)).length ≤ 1300 := fun {name xs} hx hl hn => by
    have := nmT_len (ws := xs.map Lib.itoa) (name := name) (m := 20) (fun t ht => by obtain ⟨x, hx', rfl⟩ := List.mem_map.1 ht; exact digs_len (by have := hx x hx'; omega))
    rw [List.length_map] at this
    omega
  refine ⟨e r1 hs.1 (by decide), ?_, e r2 hs.2.1 (by decide), e r3 hs.2.2 (by decide)⟩
  have := nmT_len (ws := B.h.map holdT) (name := sHeld) (m := 41) (fun t ht => by obtain ⟨x, hx', rfl⟩ := List.mem_map.1 ht; exact holdT_len (by have := r4 x hx'; omega))
  rw [List.length_map] at this
  have e4 : sHeld.length = 4 := rfl
  omega
set_option maxHeartbeats 3200000 in
theorem impl_BenchText (a b c d : Value) (B : Bn) (w : World) (r : RdBn w a b c d B) (hw : BnR B) (hsz : szBn B ≤ 16777216) (ht : Tab w) :
    Calls Tryd.prog 7 #[.agg #[a, b, c, d, .int .i64 B.n]] w fun e w' => e = .returned (str (benchTextF B)) ∧ Below w.heap.size w w' := by
  obtain ⟨A1, c1, A2, c2, A3, c3, A4, c4, ⟨rfl, rfl, rfl, rfl⟩, -, -⟩ := r.slices
  have hB0 := (Below.refl w.heap.size w).alloc (Nat.le_refl _) (.cells #[.slice A1 B.l.length c1, .slice A2 B.h.length c2, .slice A3 B.w.length c3, .slice A4 B.f.length c4, .int .i64 B.n] 30)
  have k0 := Bk.new w #[.slice A1 B.l.length c1, .slice A2 B.h.length c2, .slice A3 B.w.length c3, .slice A4 B.f.length c4, .int .i64 B.n] 30
  have hC := impl_BenchOk _ _ _ _ B _ (r.below hB0) hw hsz
  have HTB := Lib.hid ht
  have HRD := Lib.hid r
  clear ht
  cases hok : bnOk B
  · rw [hok] at hC
    have HC := Lib.hid hC
    have HF : Hid (benchTextF B = []) := Lib.hid (by simp [benchTextF, hok])
    clear hC hok r
    go_enter Tryd.func7, Tryd.ntmps7
    go_wp2_with (go_at_call 15; refine HC.out.mono ?_; rintro e w1 ⟨rfl, hb1⟩)
    go_ret
    exact ⟨ret_str HF.out.symm, hB0.trans (hb1.mono hB0.size)⟩
  · rw [hok] at hC
    have HC := Lib.hid hC
    have HF : Hid (benchTextF B = benchT B) := Lib.hid (by simp [benchTextF, hok])
    have HRN := Lib.hid (bench_rng hok)
    have HSM := Lib.hid (bnOk_small (bnOk_iff.1 hok))
    have HSH := Lib.hid (bnOk_held (bnOk_iff.1 hok))
    have HLN := Lib.hid (named_len hok)
    clear hC hok r
    go_enter Tryd.func7, Tryd.ntmps7
    go_upto_region 3 with (go_at_call 15; refine HC.out.mono ?_; rintro e w1 ⟨rfl, hb1⟩; have k1 := k0.below hb1 k0.lt)
    have hB1 := hB0.trans (hb1.mono hB0.size)
    have hk1 := k1.lt
    have p0 := fun q : Past w1 => Past.cell hk1 (k1.at_ 0 (x := .slice A1 B.l.length c1) rfl).1 q
    have p1 := fun q : Past w1 => Past.cell hk1 (k1.at_ 1 (x := .slice A2 B.h.length c2) rfl).1 q
    have p2 := fun q : Past w1 => Past.cell hk1 (k1.at_ 2 (x := .slice A3 B.w.length c3) rfl).1 q
    have p3 := fun q : Past w1 => Past.cell hk1 (k1.at_ 3 (x := .slice A4 B.f.length c4) rfl).1 q
    have HC1 : Hid (∀ W : World, Below w1.heap.size w1 W → Calls Tryd.prog 16 #[str sLinked, .slice A1 B.l.length c1, .func (.func 17) #[] #[]] W fun e w' => e = .returned (str (nmT sLinked (B.l.map Lib.itoa))) ∧ Below W.heap.size W w') := Lib.hid (fun W hW => by
      have hWB := hB1.trans (hW.mono hB1.size)
      exact impl_namedInt sLinked _ B.l W (HRD.out.below hWB).l (HTB.out.below hWB (Nat.le_refl _)) (by have := HSM.out; omega) (fun x hx => by have := HRN.out.1 x hx; omega) (by decide))
    have HC2 : Hid (∀ W : World, Below w1.heap.size w1 W → Calls Tryd.prog 18 #[str sHeld, .slice A2 B.h.length c2, .func (.func 19) #[] #[]] W fun e w' => e = .returned (str (nmT sHeld (B.h.map holdT))) ∧ Below W.heap.size W w') := Lib.hid (fun W hW => by
      have hWB := hB1.trans (hW.mono hB1.size)
      exact impl_namedHold sHeld _ B.h W (HRD.out.below hWB).h (HTB.out.below hWB (Nat.le_refl _)) (by have := HSH.out; omega) (fun x hx => by have := HRN.out.2.2.2 x hx; omega) (by decide))
    have HC3 : Hid (∀ W : World, Below w1.heap.size w1 W → Calls Tryd.prog 16 #[str sWaiting, .slice A3 B.w.length c3, .func (.func 17) #[] #[]] W fun e w' => e = .returned (str (nmT sWaiting (B.w.map Lib.itoa))) ∧ Below W.heap.size W w') := Lib.hid (fun W hW => by
      have hWB := hB1.trans (hW.mono hB1.size)
      exact impl_namedInt sWaiting _ B.w W (HRD.out.below hWB).q (HTB.out.below hWB (Nat.le_refl _)) (by have := HSM.out; omega) (fun x hx => by have := HRN.out.2.1 x hx; omega) (by decide))
    have HC4 : Hid (∀ W : World, Below w1.heap.size w1 W → Calls Tryd.prog 16 #[str sFreed, .slice A4 B.f.length c4, .func (.func 17) #[] #[]] W fun e w' => e = .returned (str (nmT sFreed (B.f.map Lib.itoa))) ∧ Below W.heap.size W w') := Lib.hid (fun W hW => by
      have hWB := hB1.trans (hW.mono hB1.size)
      exact impl_namedInt sFreed _ B.f W (HRD.out.below hWB).f (HTB.out.below hWB (Nat.le_refl _)) (by have := HSM.out; omega) (fun x hx => by have := HRN.out.2.2.1 x hx; omega) (by decide))
    obtain ⟨n1, hn1⟩ : ∃ n1, nmT sLinked (B.l.map Lib.itoa) = n1 := ⟨_, rfl⟩
    obtain ⟨n2, hn2⟩ : ∃ n2, nmT sHeld (B.h.map holdT) = n2 := ⟨_, rfl⟩
    obtain ⟨n3, hn3⟩ : ∃ n3, nmT sWaiting (B.w.map Lib.itoa) = n3 := ⟨_, rfl⟩
    obtain ⟨n4, hn4⟩ : ∃ n4, nmT sFreed (B.f.map Lib.itoa) = n4 := ⟨_, rfl⟩
    have HJB := Lib.hid (benchT_join B)
    rw [hn1] at HC1 HLN HJB
    rw [hn2] at HC2 HLN HJB
    rw [hn3] at HC3 HLN HJB
    rw [hn4] at HC4 HLN HJB
    clear hn1 hn2 hn3 hn4 k0 hb1 k1 hk1
    refine wp_region_two 13 13 (fun w' => ∃ q : Past w1, w' = q.v) (fun _ => True) (by kernel_rfl) ?_
    obtain ⟨w0, hw0⟩ : ∃ w0, w0 = w1.drew := ⟨_, rfl⟩
    have T0 : Hid (Below w1.heap.size w1 w0) := Lib.hid (by rw [hw0]; exact (Below.refl _ _).drew)
    rw [← hw0]
    clear hw0
    refine wpAnyX_pass (C := (fun w' => ∃ q : Past w1, w' = q.v)) (some false) [true, true, false, true, true, false, true, true, false, true, true] rfl (by kernel_rfl) (fun _ _ t _ _ h => by cases t <;> exact h) ⟨fun _ => ⟨⟨w0, T0.out⟩, rfl⟩, fun _ => trivial⟩ ?_
    simp only [keepOps]
    repeat (go_big_quiet_step (fail))
    refine wpQuiet_nil ?_
    clear p0 p1 p2 p3
    refine wpAnyX_one 2 rfl (by kernel_rfl) (by kernel_rfl) ?_
    go_wp2_with fail
    refine (HC1.out w0 T0.out).mono ?_
    rintro e w2 ⟨rfl, hb2⟩
    have T2 := Lib.hid (T0.out.trans (hb2.mono T0.out.size))
    go_wp2_with fail
    refine ⟨⟨fun _ => ⟨⟨w2, T2.out⟩, rfl⟩, fun _ => trivial⟩, ?_⟩
    refine wpAnyX_one 5 rfl (by kernel_rfl) (by kernel_rfl) ?_
    go_wp2_with fail
    refine (HC2.out w2 T2.out).mono ?_
    rintro e w3 ⟨rfl, hb3⟩
    have T3 := Lib.hid (T2.out.trans (hb3.mono T2.out.size))
    go_wp2_with fail
    refine ⟨⟨fun _ => ⟨⟨w3, T3.out⟩, rfl⟩, fun _ => trivial⟩, ?_⟩
    refine wpAnyX_one 8 rfl (by kernel_rfl) (by kernel_rfl) ?_
    go_wp2_with fail
    refine (HC3.out w3 T3.out).mono ?_
    rintro e w4 ⟨rfl, hb4⟩
    have T4 := Lib.hid (T3.out.trans (hb4.mono T3.out.size))
    go_wp2_with fail
    refine ⟨⟨fun _ => ⟨⟨w4, T4.out⟩, rfl⟩, fun _ => trivial⟩, ?_⟩
    refine wpAnyX_one 11 rfl (by kernel_rfl) (by kernel_rfl) ?_
    go_wp2_with fail
    refine (HC4.out w4 T4.out).mono ?_
    rintro e w5 ⟨rfl, hb5⟩
    have T5 := Lib.hid (T4.out.trans (hb5.mono T4.out.size))
    go_wp2_with fail
    refine ⟨⟨fun _ => ⟨⟨w5, T5.out⟩, rfl⟩, fun _ => trivial⟩, ?_⟩
    refine wpAnyX_one 12 rfl (by kernel_rfl) (by kernel_rfl) ?_
    go_wp2_with fail
    refine ⟨⟨fun _ => ⟨⟨_, T5.out.alloc T5.out.size _⟩, rfl⟩, fun _ => trivial⟩, ?_⟩
    refine wpAnyX_one 13 rfl (by kernel_rfl) (by kernel_rfl) ?_
    go_wp2_with fail
    refine ⟨⟨fun h => absurd (show true = false from h) (by decide), fun _ => trivial⟩, ?_⟩
    refine wpAnyX_done (by kernel_rfl) ?_
    try dsimp only
    have hO := World.ownsRow_lit (base := w5.heap.size) (e := 9) (size := 1) w5 #[str n1, str n2, str n3, str n4] 4 (Nat.le_refl _) (by simp [maxLen]) rfl
    have HJ := Lib.hid (joinN_call w5.heap.size 4 w5.heap.size [n1, n2, n3, n4] (w5.alloc (.cells #[str n1, str n2, str n3, str n4] 9)) hO (by simp) (by simp) (by
      rw [Lib.join_cons]
      have := HLN.out
      simp [Lib.joinTail]
      omega))
    rw [HJB.out] at HJ
    have hBF := hB1.trans (T5.out.mono hB1.size)
    have hBG := hBF.alloc hBF.size (.cells #[str n1, str n2, str n3, str n4] 9)
    clear hO
    go_wp2_with fail
    refine HJ.out.mono ?_
    rintro e w6 ⟨rfl, hb6⟩
    go_wp2_with fail
    go_ret
    exact ⟨ret_str HF.out.symm, hBG.trans (hb6.mono hBG.size)⟩
end Go.Proofs.YtiamkgkhamnaeaaDoor
