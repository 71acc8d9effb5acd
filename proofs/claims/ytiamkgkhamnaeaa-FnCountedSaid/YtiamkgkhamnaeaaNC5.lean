/- Contracts of l10FreeIdle and StepCount of package spec. Conditions: the bench's rows can be read; lengths that a law bounds. -/
import Derived.Test.YtiamkgkhamnaeaaNC4
import Derived.Test.YtiamkgkhamnaeaaNC2
import Derived.Test.YtiamkgkhamnaeaaN23
namespace Go.Proofs.Ytiamkgkhamnaeaa
set_option maxRecDepth 20000
set_option linter.unusedSimpArgs false
set_option linter.unusedVariables false
open Go.ChangeShapes Go.WideShapes Go.ChangeAt Go.RowKit
set_option linter.unusedVariables false
/-- returns a bench of its own, above lo -/
def RetBnL (lo : Nat) (B : Bn) (v : Value) (w : World) (e : Ending) (w' : World) : Prop :=
  ∃ a b c d bs, e = .returned (.tuple #[.agg #[a, b, c, d, .int .i64 B.n], v]) ∧ OwnBn w' a b c d B bs ∧ (∀ y ∈ bs, lo ≤ y) ∧ Below w.heap.size w w'
set_option maxHeartbeats 1600000 in
theorem spec_FreeIdle (a b c d : Value) (B : Bn) (bs : List Nat) (x : Int) (lo : Nat) (w : World) (hO : OwnBn w a b c d B bs) (hok : bnOk B = true) (hbs : ∀ y ∈ bs, lo ≤ y) (hlo : lo ≤ w.heap.size) :
    Calls Try.prog 53 #[.agg #[a, b, c, d, .int .i64 B.n], .int .i64 x] w (RetBnL lo (relBn B x) (.int .i64 (relR B x)) w) := by
  obtain ⟨A1, c1, A2, c2, A3, c3, A4, c4, rfl, rfl, rfl, rfl⟩ := hO.formV
  have hsz := ok_sz hok
  obtain ⟨W0, hW0⟩ : ∃ W0, W0 = (w.alloc (.cells #[.slice A1 B.l.length c1, .slice A2 B.h.length c2, .slice A3 B.w.length c3, .slice A4 B.f.length c4, .int .i64 B.n] 31)).alloc (.cells #[.slice none 0 0, .slice none 0 0, .slice none 0 0, .slice none 0 0, .int .i64 0] 31) := ⟨_, rfl⟩
  have hB0 := ((Below.refl w.heap.size w).alloc (Nat.le_refl _) (.cells #[.slice A1 B.l.length c1, .slice A2 B.h.length c2, .slice A3 B.w.length c3, .slice A4 B.f.length c4, .int .i64 B.n] 31)).alloc (by simp) (.cells #[.slice none 0 0, .slice none 0 0, .slice none 0 0, .slice none 0 0, .int .i64 0] 31)
  have k0 := (Bk.new w #[.slice A1 B.l.length c1, .slice A2 B.h.length c2, .slice A3 B.w.length c3, .slice A4 B.f.length c4, .int .i64 B.n] 31).alloc (.cells #[.slice none 0 0, .slice none 0 0, .slice none 0 0, .slice none 0 0, .int .i64 0] 31)
  have r0 := Bk.new (w.alloc (.cells #[.slice A1 B.l.length c1, .slice A2 B.h.length c2, .slice A3 B.w.length c3, .slice A4 B.f.length c4, .int .i64 B.n] 31)) #[.slice none 0 0, .slice none 0 0, .slice none 0 0, .slice none 0 0, .int .i64 0] 31
  simp only [World.size_alloc] at r0
  rw [← hW0] at hB0 k0 r0
  have hz0 : w.heap.size + 2 ≤ W0.heap.size := by rw [hW0]; simp
  have hO0 := hO.below hB0
  have HW0 := Lib.hid hW0
  have HOK := Lib.hid hok
  obtain ⟨⟨e0, e1, e2, e3, e4⟩, -⟩ := five k0
  have hhl : (holdersF B x).length = holdN B x := by unfold holdersF; rw [hok, ← ofF_hold]; rfl
  clear hW0
  rcases (Bool.eq_false_or_eq_true (B.w.any (· == x))).symm with hw | hw
  · have HB1 : Hid (relBn B x = B ∧ relR B x = 0) := Lib.hid (by unfold relBn relR idleB; rw [hw]; simp)
    have hHAS := l01Has _ B.w x W0 hO0.rd.q
    rw [hw] at hHAS
    have HH := Lib.hid hHAS
    clear hw hHAS
    go_enter Try.func53, Try.ntmps53
    go_upto_region 2 with (go_at_call 67; rw [← HW0.out]; refine HH.out.mono ?_; rintro e w1 ⟨rfl, rfl⟩)
    obtain ⟨⟨f0, f1, f2, f3, f4⟩, g0, g1, g2, g3, g4⟩ := five r0
    go_wp2_with fail
    have qF := r0.set5 (.slice A1 B.l.length c1) (.slice A2 B.h.length c2) (.slice A3 B.w.length c3) (.slice A4 B.f.length c4) (.int .i64 B.n)
    obtain ⟨⟨zz0, zz1, zz2, zz3, zz4⟩, -⟩ := five qF
    refine bodyPost_ret (v := .tuple #[.agg #[.slice A1 B.l.length c1, .slice A2 B.h.length c2, .slice A3 B.w.length c3, .slice A4 B.f.length c4, .int .i64 B.n], .int .i64 0]) (by simp [results, Try.results53, go_sem, zz0, zz1, zz2, zz3, zz4]) rfl ?_
    rw [HB1.out.1, HB1.out.2]
    exact ⟨_, _, _, _, bs, rfl, hO0.only (only_set5 _ (w.heap.size + 1) _ _ _ _ _) (fun y hy hm => by have := hO.lt y hy; have := List.mem_singleton.1 hm; omega), hbs, below_set5 hB0 (by omega) _ _ _ _ _⟩
  · have hHAS := l01Has _ B.w x W0 hO0.rd.q
    rw [hw] at hHAS
    have HH := Lib.hid hHAS
    clear hHAS
    by_cases hh : holdN B x = 0
    · have hid : idleB B x = true := by unfold idleB; rw [hw, hh]; rfl
      have HB1 : Hid (relBn B x = freeBn B [x] ∧ relR B x = 1) := Lib.hid (by unfold relBn relR; rw [hid]; exact ⟨rfl, rfl⟩)
      have hh0 : (holdersF B x).length = 0 := by rw [hhl, hh]
      have HH0 := Lib.hid hh0
      clear hid hw hh hhl hh0
      go_enter Try.func53, Try.ntmps53
      go_upto_region 3 with (first
        | (go_at_call 67; rw [← HW0.out]; refine HH.out.mono ?_; rintro e w1 ⟨rfl, rfl⟩)
        | (go_at_call 51; refine (spec_HoldersOf _ _ _ _ B x _ hO0.rd (by omega)).mono ?_; rintro e w3 ⟨v3, bs3, rfl, ho3, -, hb3⟩; rw [HH0.out] at ho3; obtain ⟨V3, d3', rfl, -, -⟩ := ho3.slice; have k3 := k0.below hb3 k0.lt; have r3 := r0.below hb3 r0.lt; have hO3 := hO0.below hb3; have hB3 := hB0.trans (hb3.mono hB0.size)))
      have hs3 := hb3.size
      obtain ⟨⟨f0, f1, f2, f3, f4⟩, -⟩ := five k3
      have hbA := (Below.refl w3.heap.size w3).alloc (Nat.le_refl _) (.cells #[.int .i64 x] 3)
      have hRd : Rd (w3.alloc (.cells #[.int .i64 x] 3)) (.slice (some ⟨w3.heap.size, 0, none⟩) 1 1) 1 1 (ints [x]) := Rd.newInts w3 [x] 3 rfl (by omega)
      have HF := Lib.hid (spec_FreeSome _ _ _ _ B _ [x] _ (hO3.rd.below hbA) hRd (by simp) (by omega))
      go_wp2_with (go_at_call 91; refine HF.out.mono ?_; rintro e w4 ⟨u1, u2, u3, u4, bs4, rfl, hO4, hb4, hl4⟩; obtain ⟨D1, d1, D2, d2, D3, d3, D4, d4, rfl, rfl, rfl, rfl⟩ := hO4.formV; have r4 := (r3.below hbA r3.lt).below hl4 (by have := r3.lt; simp; omega); obtain ⟨⟨h0, h1, h2, h3, h4⟩, g0, g1, g2, g3, g4⟩ := five r4; have hr4 := r4.lt)
      have qF := (r4.set5 (.slice D1 (freeBn B [x]).l.length d1) (.slice D2 (freeBn B [x]).h.length d2) (.slice D3 (freeBn B [x]).w.length d3) (.slice D4 (freeBn B [x]).f.length d4) (.int .i64 (freeBn B [x]).n)).alloc (.cells #[.slice D1 (freeBn B [x]).l.length d1, .slice D2 (freeBn B [x]).h.length d2, .slice D3 (freeBn B [x]).w.length d3, .slice D4 (freeBn B [x]).f.length d4, .int .i64 (freeBn B [x]).n] 31)
      obtain ⟨⟨zz0, zz1, zz2, zz3, zz4⟩, -⟩ := five qF
      refine bodyPost_ret (v := .tuple #[.agg #[.slice D1 (freeBn B [x]).l.length d1, .slice D2 (freeBn B [x]).h.length d2, .slice D3 (freeBn B [x]).w.length d3, .slice D4 (freeBn B [x]).f.length d4, .int .i64 (freeBn B [x]).n], .int .i64 1]) (by simp [results, Try.results53, go_sem, zz0, zz1, zz2, zz3, zz4]) rfl ?_
      rw [HB1.out.1, HB1.out.2]
      have hB4 := hB3.trans ((hbA.trans (hl4.mono hbA.size)).mono hB3.size)
      have hs4 := hbA.size
      exact ⟨_, _, _, _, bs4, rfl, (hO4.only (only_set5 w4 (w.heap.size + 1) (.slice D1 (freeBn B [x]).l.length d1) (.slice D2 (freeBn B [x]).h.length d2) (.slice D3 (freeBn B [x]).w.length d3) (.slice D4 (freeBn B [x]).f.length d4) (.int .i64 (freeBn B [x]).n)) (fun y hy hm => by have := hb4 y hy; have := List.mem_singleton.1 hm; omega)).below ((Below.refl _ _).alloc (Nat.le_refl _) (.cells #[.slice D1 (freeBn B [x]).l.length d1, .slice D2 (freeBn B [x]).h.length d2, .slice D3 (freeBn B [x]).w.length d3, .slice D4 (freeBn B [x]).f.length d4, .int .i64 (freeBn B [x]).n] 31)), fun y hy => by have := hb4 y hy; omega, (below_set5 hB4 (by omega) _ _ _ _ _).alloc (below_set5 hB4 (by omega) _ _ _ _ _).size (.cells #[.slice D1 (freeBn B [x]).l.length d1, .slice D2 (freeBn B [x]).h.length d2, .slice D3 (freeBn B [x]).w.length d3, .slice D4 (freeBn B [x]).f.length d4, .int .i64 (freeBn B [x]).n] 31)⟩
    · have hid : idleB B x = false := by unfold idleB; simp [hh]
      have HB1 : Hid (relBn B x = B ∧ relR B x = 0) := Lib.hid (by unfold relBn relR; rw [hid]; exact ⟨rfl, rfl⟩)
      have hq : decide ((0 : Int) < (holdersF B x).length) = true := by simp; omega
      have hq2 : (0 : Int) < (holdersF B x).length := by omega
      clear hid hw hh hhl
      go_enter Try.func53, Try.ntmps53
      go_upto_region 2 with (first
        | (go_at_call 67; rw [← HW0.out]; refine HH.out.mono ?_; rintro e w1 ⟨rfl, rfl⟩)
        | (go_at_call 51; refine (spec_HoldersOf _ _ _ _ B x _ hO0.rd (by omega)).mono ?_; rintro e w3 ⟨v3, bs3, rfl, ho3, -, hb3⟩; obtain ⟨V3, d3', rfl, -, -⟩ := ho3.slice; have k3 := k0.below hb3 k0.lt; have r3 := r0.below hb3 r0.lt; have hO3 := hO0.below hb3; have hB3 := hB0.trans (hb3.mono hB0.size)))
      have hs3 := hb3.size
      obtain ⟨⟨f0, f1, f2, f3, f4⟩, -⟩ := five k3
      obtain ⟨⟨h0, h1, h2, h3, h4⟩, g0, g1, g2, g3, g4⟩ := five r3
      go_wp2_with fail
      have qF := r3.set5 (.slice A1 B.l.length c1) (.slice A2 B.h.length c2) (.slice A3 B.w.length c3) (.slice A4 B.f.length c4) (.int .i64 B.n)
      obtain ⟨⟨zz0, zz1, zz2, zz3, zz4⟩, -⟩ := five qF
      refine bodyPost_ret (v := .tuple #[.agg #[.slice A1 B.l.length c1, .slice A2 B.h.length c2, .slice A3 B.w.length c3, .slice A4 B.f.length c4, .int .i64 B.n], .int .i64 0]) (by simp [results, Try.results53, go_sem, zz0, zz1, zz2, zz3, zz4]) rfl ?_
      rw [HB1.out.1, HB1.out.2]
      exact ⟨_, _, _, _, bs, rfl, hO3.only (only_set5 _ (w.heap.size + 1) _ _ _ _ _) (fun y hy hm => by have := hO.lt y hy; have := List.mem_singleton.1 hm; omega), hbs, below_set5 hB3 (by omega) _ _ _ _ _⟩
end Go.Proofs.Ytiamkgkhamnaeaa
