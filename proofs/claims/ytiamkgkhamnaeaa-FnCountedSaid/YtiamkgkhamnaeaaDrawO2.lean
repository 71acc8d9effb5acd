/- Contract of the draw of a script (spec.l10Ops, spec.DrawPlayCount). Condition: the bytes can be read, at most 1048576. -/
import Derived.Test.YtiamkgkhamnaeaaDrawO
namespace Go.Proofs.Ytiamkgkhamnaeaa
set_option maxRecDepth 20000
set_option linter.unusedSimpArgs false
set_option linter.unusedVariables false
open Go.ChangeShapes Go.WideShapes Go.ChangeAt Go.RowKit
set_option linter.unusedVariables false
set_option maxHeartbeats 400000 in
theorem l01Size70 (A : Option Addr) (n c : Nat) (w : World) (hnc : n ≤ c) (hc : c ≤ 9223372036854775807) (hn : n ≤ 1048576) :
    Calls Try.prog 107 #[.slice A n c, .int .i64 70] w fun e w' => ∃ k : Nat, e = .returned (.int .i64 k) ∧ 1 ≤ k ∧ k ≤ 70 ∧ w = w' := by
  have hq : (n : Int).tdiv 16 = ((n / 16 : Nat) : Int) := by rw [Int.tdiv_eq_ediv_of_nonneg (by omega)]; omega
  by_cases h : (70 : Int) < 2 + (n : Int) / 16
  · go_enter Try.func107, Try.ntmps107
    go_wp2_with fail
    go_ret
    exact ⟨70, rfl, by omega, by omega, rfl⟩
  · go_enter Try.func107, Try.ntmps107
    go_wp2_with fail
    go_ret
    exact ⟨2 + n / 16, ret_int (by omega), by omega, by omega, rfl⟩
/-- a drawn script of the call's own -/
def RetScr (w : World) (e : Ending) (w' : World) : Prop :=
  ∃ (v : Value) (L : List O3), e = .returned v ∧ L.length ≤ 301 ∧ w'.ownsRow w.heap.size 35 3 v L.length (flc3 L) ∧ Below w.heap.size w w'
def lenV : Value → Nat
  | .slice _ n _ => n
  | _ => 0
set_option maxHeartbeats 3200000 in
theorem l10Ops (A : Option Addr) (n c : Nat) (w : World) (h : Byt w A n) (hnc : n ≤ c) (hc : c ≤ 9223372036854775807) (hn : n ≤ 1048576) :
    Calls Try.prog 70 #[.slice A n c] w (RetScr w) := by
  obtain ⟨i, hi, hiz0, hiz1, hiz2⟩ := info_parts infoOp3
  go_enter Try.func70, Try.ntmps70
  go_wp2_with fail
  refine (l01New A n c w.heap.size _ h (fun ad ha hn0 => by obtain ⟨ad', e1, e2, _⟩ := h hn0; rw [ha] at e1; injection e1 with e1; subst e1; exact e2) hnc hc hn).mono ?_
  rintro e w1 ⟨g, rfl, hc1, hg1, hb1⟩
  have hg := hc1.lt
  go_wp2_with (go_at_call 107; refine (l01Size70 A n c _ hnc hc hn).mono ?_; rintro e w2 ⟨ks, rfl, hks1, hks2, rfl⟩)
  refine (l01Below g ks _ hc1 (WalkArith.wf_i64 (by omega))).mono ?_
  rintro e w3 ⟨x, ⟨x0, x1⟩, rfl, hcu3, ho3⟩
  have x2 : x < 70 := by omega
  obtain ⟨x, rfl⟩ := Int.eq_ofNat_of_zero_le x0
  clear x1
  go_wp2_with fail
  refine (l10DrawOps g x _ hcu3 (by omega)).mono ?_
  rintro e w4 ⟨v, L, rfl, hL, hrow, hcu4, ho4⟩
  have hs4 := ho4.size
  have hg3 := hcu3.lt
  obtain ⟨AO, cO, rfl⟩ := owns_form' hrow
  have HO3 := Lib.hid ho3
  have ho14 := ho4
  clear ho3 ho4 hcu3
  go_wp2_with fail
  refine (l01Once g 40 _ hcu4 (WalkArith.wf_i64 (by omega))).mono ?_
  rintro e w5 ⟨b5, rfl, hcu5, ho5⟩
  have hrow5 := owns_curO hrow ho5 hg3
  have ho15 := ho14.trans ho5
  clear hrow ho14 ho5 hcu4
  have HB1 := Lib.hid hb1
  have HG1 := Lib.hid hg1
  have hs3 := HO3.out.size
  have hgw : w.heap.size ≤ w3.heap.size := by have := hb1.size; omega
  cases b5
  · go_wp2_with fail
    go_ret
    exact ⟨_, L, rfl, by omega, owns_mono hrow5 hgw, HB1.out.trans ((HO3.out.trans ho15).below (B := w.heap.size) HB1.out.size (by simp; exact HG1.out))⟩
  · go_wp2_with fail
    go_loopw [5] (fun vo wr => ∃ (L : List O3) (T : Option Addr) (tc : Nat), vo = .slice T L.length tc ∧ L.length ≤ 301 ∧ wr.ownsRow w3.heap.size 35 3 vo L.length (flc3 L) ∧ Cur w.heap.size wr g ∧ Only [g] w3 wr) (fun vo _ => 302 - lenV vo)
    case atStart => exact ⟨L, AO, cO, rfl, by omega, hrow5, hcu5, ho15⟩
    case round =>
      obtain ⟨L, T, tc, rfl, hL, hrow, hcu, ho⟩ := hrel
      clear hrow5 hcu5 ho15
      go_wp2_with fail
      refine (l01Below g 2 _ hcu (WalkArith.wf_i64 (by omega))).mono ?_
      rintro e w6 ⟨y, ⟨y0, y1⟩, rfl, hcu6, ho6⟩
      have hrow6 := owns_curO hrow ho6 hg3
      have ho16 := ho.trans ho6
      have hs6 := ho16.size
      clear hrow hcu ho ho6
      by_cases hlt : (L.length : Int) < 300 + y
      · have hrm : ((L.length : Int).tmod 5) = ((L.length % 5 : Nat) : Int) := by rw [Int.tmod_eq_emod_of_nonneg (by omega)]; omega
        go_wp2_with (at_builtin; refine wpList_append_own_at _ rfl _ _ 44 rfl w3.heap.size 35 i (.agg #[.int .i64 0, .int .i64 0, .int .i64 0]) 3 24 Try.underlying44 hi hiz0 hiz1 hiz2 rfl (by decide) _ _ _ rfl (hrow6.alloc _) ⟨w6.heap.size, 0, none⟩ 1 1 [.int .i64 6, .int .i64 ((L.length : Int) % 5), .int .i64 0] rfl rfl (new_cells _ _ _) (by simp [Value.oneCell']) (by unfold maxLen; omega) (by omega) (by simp; omega) ?_; intro v9 w9 h9 hg9 _ hloc; obtain ⟨T9, c9, rfl⟩ := owns_form' h9)
        have hbA := (Below.refl w3.heap.size w6).alloc (by omega) (.cells #[.int .i64 6, .int .i64 ((L.length : Int) % 5), .int .i64 0] 35)
        have hb9 : Below w3.heap.size w6 w9 := hbA.grown hg9 (by simp; omega) (fun k hk => (hrow6.lt k hk).1)
        have e9 : flc3 (L ++ [⟨6, (L.length : Int) % 5, 0⟩]) = flc3 L ++ o3C ⟨6, (L.length : Int) % 5, 0⟩ := by rw [flc3_append]; rfl
        refine ⟨⟨L ++ [⟨6, (L.length : Int) % 5, 0⟩], T9, c9, by simp, by simp; omega, ?_, hcu6.belowB hb9 hg3, ho16.thenBelow hb9 (by omega)⟩, by simp [lenV]; omega⟩
        rw [e9, List.length_append]
        exact h9
      · go_wp2_with fail
        go_ret
        exact ⟨_, L, rfl, hL, owns_mono hrow6 hgw, HB1.out.trans ((HO3.out.trans ho16).below (B := w.heap.size) HB1.out.size (by simp; exact HG1.out))⟩
theorem DrawPlayCount (A : Option Addr) (n c : Nat) (w : World) (h : Byt w A n) (hnc : n ≤ c) (hc : c ≤ 9223372036854775807) (hn : n ≤ 1048576) :
    Calls Try.prog 31 #[.slice A n c] w (RetScr w) := by
  have HC := Lib.hid (l10Ops A n c w h hnc hc hn)
  clear h
  go_enter Try.func31, Try.ntmps31
  go_wp2_with fail
  refine HC.out.mono ?_
  rintro e w1 ⟨v, L, rfl, h1, h2, h3⟩
  go_wp2_with fail
  go_ret
  exact ⟨v, L, rfl, h1, h2, h3⟩
end Go.Proofs.Ytiamkgkhamnaeaa
