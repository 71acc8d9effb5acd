/- Contracts of the draws of codes, and of the copy of a code (package spec). Conditions: the cursor's bytes can be read; the numbers are small. -/
import Derived.Test.YtgbgjlmkmlhefaaDrawP
import Derived.Test.YtgbgjlmkmlhefaaS2e
namespace Go.Proofs.Ytgbgjlmkmlhefaa
set_option maxRecDepth 20000
set_option linter.unusedSimpArgs false
set_option linter.unusedVariables false
open Go.ChangeShapes Go.WideShapes Go.ChangeAt Go.RowKit
set_option linter.unusedVariables false
def DrawnC (n : Nat) (lo g : Nat) (w : World) (e : Ending) (w' : World) : Prop :=
  ∃ (v : Value) (L : List Ins), e = .returned v ∧ L.length = n ∧ (∀ x ∈ L, SmallI x) ∧ w'.ownsRow w.heap.size 74 4 v L.length (flc L) ∧ Cur lo w' g ∧ Only [g] w w'
set_option maxHeartbeats 1600000 in
theorem l02DrawCode (g : Nat) (cells : Int) (n : Nat) (w : World) {lo : Nat} (h : Cur lo w g) (hc0 : 0 ≤ cells ∧ cells ≤ 20) (hn : n ≤ 20) :
    Calls Try.prog 89 #[.pointer (some ⟨g, 0, none⟩), .int .i64 cells, .int .i64 n] w (DrawnC n lo g w) := by
  have hg := h.lt
  obtain ⟨i, hi, hiz0, hiz1, hiz2⟩ := info_parts infoIns
  have hO0 := owns_newCells w 74 4
  have hcu0 := h.below ((Below.refl _ _).alloc (Nat.le_refl _) (.cells #[] 74))
  have ho0 := (Only.refl [g] w).alloc (.cells #[] 74)
  go_enter Try.func89, Try.ntmps89
  go_wp2_with fail
  go_loopw [7, 8] (fun vo j wr => ∃ (k : Nat) (L : List Ins), k ≤ n ∧ j = .int .i64 k ∧ L.length ≤ k ∧ Hid (L.length = k ∧ ∀ x ∈ L, SmallI x) ∧ wr.ownsRow w.heap.size 74 4 vo L.length (flc L) ∧ Cur lo wr g ∧ Only [g] w wr) (fun _ j _ => n - (intOf j).toNat)
  case atStart => exact ⟨0, [], Nat.zero_le _, rfl, Nat.le_refl _, Lib.hid ⟨rfl, by simp⟩, hO0, hcu0, ho0⟩
  case round =>
    obtain ⟨k, L, hk, rfl, hL, HL, hO, hcu, ho⟩ := hrel
    clear hO0 hcu0 ho0
    obtain ⟨AO, cO, rfl, hcO, hcOm⟩ := owns_slice hO
    by_cases hlt : k < n
    · go_wp2_with fail
      refine (l02DrawInstr g cells n _ hcu hc0 (by omega)).mono ?_
      rintro e w2 ⟨⟨xo, xr, xsS, xn⟩, hsm, rfl, hcu2, ho2⟩
      have hO2 : w2.ownsRow w.heap.size 74 4 (.slice AO L.length cO) L.length (flc L) := hO.kept (row := some g) ⟨ho2.os, ho2.tape, ho2.output, ho2.size, fun q hq hne => ho2.block q hq (by simpa using fun e => hne (by rw [e]))⟩ (by
        cases hob : (Value.slice AO L.length cO).ownBlock with
        | none => exact .inl rfl
        | some q => exact .inr (fun e => by injection e with e; have := (hO.lt q hob).1; omega))
      have ho3 := ho.trans ho2
      have hsz := ho3.size
      have hBt : Below w.heap.size w2 w2 := Below.refl _ _
      have HSM := Lib.hid hsm
      clear hO hcu ho ho2 hsm
      go_wp2_with (at_builtin; refine wpList_append_own _ rfl _ _ 57 rfl (w.heap.size) 74 i (.agg #[.int .i64 0, .int .i64 0, .int .i64 0, .int .i64 0]) 4 32 Try.underlying57 hi hiz0 hiz1 hiz2 rfl (by decide) _ _ _ rfl (hO2.alloc _) ⟨w2.heap.size, 0, none⟩ 1 1 [.int .i64 xo, .int .i64 xr, .int .i64 xsS, .int .i64 xn] rfl rfl (new_cells _ _ _) (by simp [Value.oneCell']) (by unfold maxLen; omega) (by omega) (by have := hsz; simp; omega) ?_)
      intro vo3 w3 ho6 hg6 _
      have hB6 := (hBt.alloc hsz _).grown hg6 (by have := hsz; simp; omega) (fun k hk => by have := (hO2.lt k hk).1; omega)
      have hO6 := owns_snocI (x := ⟨xo, xr, xsS, xn⟩) ho6
      go_wp2_with fail
      exact ⟨⟨k + 1, L ++ [⟨xo, xr, xsS, xn⟩], by omega, by go_num, by simp; omega, Lib.hid ⟨by simp [HL.out.1], fun x hx => by
        rcases List.mem_append.1 hx with hx | hx
        · exact HL.out.2 x hx
        · rw [List.mem_singleton] at hx; subst hx; exact HSM.out⟩, hO6, hcu2.belowB hB6 hg, ho3.thenBelow hB6 (Nat.le_refl _)⟩, by simp [intOf]; omega⟩
    · obtain rfl : k = n := by omega
      go_wp2_with fail
      go_ret
      exact ⟨_, L, rfl, HL.out.1, HL.out.2, hO, hcu, ho⟩
set_option maxHeartbeats 1600000 in
theorem l02Codes (v : Value) (xs : List Ins) (w : World) (h : Rd w v 4 xs.length (flc xs)) (hl : xs.length ≤ 1048576) :
    Calls Try.prog 97 #[v] w fun e w' => ∃ v', e = .returned v' ∧ w'.ownsRow w.heap.size 74 4 v' xs.length (flc xs) ∧ Below w.heap.size w w' := by
  obtain ⟨A, c, rfl, -, hnc, hc, hr⟩ := h
  unfold maxLen at hc
  obtain ⟨i, hi, hiz0, hiz1, hiz2⟩ := info_parts infoIns
  have hO0 := owns_newCells w 74 4
  have hB0 := (Below.refl w.heap.size w).alloc (Nat.le_refl _) (.cells #[] 74)
  go_enter Try.func97, Try.ntmps97
  go_wp2_with fail
  go_loopw [3, 4] (fun vo j wr => ∃ (k : Nat) (L : List Ins), k ≤ xs.length ∧ j = .int .i64 k ∧ L.length ≤ k ∧ Hid (L = xs.take k) ∧ wr.ownsRow w.heap.size 74 4 vo L.length (flc L) ∧ Below w.heap.size w wr) (fun _ j _ => xs.length - (intOf j).toNat)
  case atStart => exact ⟨0, [], Nat.zero_le _, rfl, Nat.le_refl _, Lib.hid (by simp), hO0, hB0⟩
  case round =>
    obtain ⟨k, L, hk, rfl, hL, HL, hO, hB⟩ := hrel
    clear hO0 hB0
    by_cases hlt : k < xs.length
    · obtain ⟨b, o, rfl, hb, hcell⟩ := hr (by omega)
      obtain ⟨x, hxk, hx0, hx1, hx2, hx3⟩ := ins_at (fun j u hu => (hB.cell (p := ⟨b, o + j, none⟩) hb).trans (hcell j u hu)) hlt
      obtain ⟨xo, xr, xsS, xn⟩ := x
      simp only at hx0 hx1 hx2 hx3
      clear hcell hr
      go_wp2_with (at_builtin; refine wpList_append_own _ rfl _ _ 57 rfl (w.heap.size) 74 i (.agg #[.int .i64 0, .int .i64 0, .int .i64 0, .int .i64 0]) 4 32 Try.underlying57 hi hiz0 hiz1 hiz2 rfl (by decide) _ _ _ rfl (hO.alloc _) ⟨wr.heap.size, 0, none⟩ 1 1 [.int .i64 xo, .int .i64 xr, .int .i64 xsS, .int .i64 xn] rfl rfl (new_cells _ _ _) (by simp [Value.oneCell']) (by unfold maxLen; omega) (by omega) (by have := hB.size; simp; omega) ?_)
      intro vo3 w3 ho6 hg6 _
      have hB6 := (hB.alloc hB.size _).grown hg6 (by have := hB.size; simp; omega) (fun k hk => by have := (hO.lt k hk).1; omega)
      have hO6 := owns_snocI (x := ⟨xo, xr, xsS, xn⟩) ho6
      go_wp2_with fail
      exact ⟨⟨k + 1, L ++ [⟨xo, xr, xsS, xn⟩], by omega, by go_num, by simp; omega, Lib.hid (by rw [List.take_add_one, hxk.out, HL.out]; rfl), hO6, hB6⟩, by simp [intOf]; omega⟩
    · obtain rfl : k = xs.length := by omega
      have hN := HL.out
      rw [List.take_length] at hN
      subst hN
      clear hr
      go_wp2_with fail
      go_ret
      exact ⟨_, rfl, hO, hB⟩
end Go.Proofs.Ytgbgjlmkmlhefaa
