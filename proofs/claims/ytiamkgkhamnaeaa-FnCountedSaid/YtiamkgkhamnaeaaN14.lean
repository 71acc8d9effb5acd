/- Contracts of slices.Index and slices.Contains of rows of numbers and of holds. Condition: the row can be read. -/
import Derived.Test.YtiamkgkhamnaeaaN13
namespace Go.Proofs.Ytiamkgkhamnaeaa
set_option maxRecDepth 20000
set_option linter.unusedSimpArgs false
set_option linter.unusedVariables false
open Go.ChangeShapes Go.WideShapes Go.ChangeAt Go.RowKit
set_option linter.unusedVariables false
/-- r is a place of x, or -1 where there is none -/
def IdxOf {α : Type} (xs : List α) (x : α) (r : Int) : Prop := (r = -1 ∧ x ∉ xs) ∨ ∃ k : Nat, r = k ∧ xs[k]? = some x
theorem IdxOf.nonneg {α : Type} {xs : List α} {x : α} {r : Int} (h : IdxOf xs x r) : 0 ≤ r ↔ x ∈ xs := by
  rcases h with ⟨rfl, h⟩ | ⟨k, rfl, h⟩
  · exact ⟨fun h => by omega, fun hm => absurd hm h⟩
  · exact ⟨fun _ => List.mem_of_getElem? h, fun _ => by omega⟩
theorem not_mem_snoc {α : Type} {xs : List α} {k : Nat} {x y : α} (h : x ∉ xs.take k) (hy : xs[k]? = some y) (hn : ¬ y = x) : x ∉ xs.take (k + 1) := by
  rw [List.take_add_one, hy, List.mem_append]
  rintro (h1 | h1)
  · exact h h1
  · simp at h1
    exact hn h1.symm
set_option maxHeartbeats 800000 in
theorem indexI (v : Value) (xs : List Int) (x : Int) (w : World) (h : Rd w v 1 xs.length (ints xs)) :
    Calls Try.prog 84 #[v, .int .i64 x] w fun e w' => ∃ r : Int, e = .returned (.int .i64 r) ∧ IdxOf xs x r ∧ w = w' := by
  obtain ⟨A, c, rfl, -, hnc, hc, hr⟩ := h
  unfold maxLen at hc
  go_enter Try.func84, Try.ntmps84
  go_wp2
  go_loop [8] (fun i => ∃ k : Nat, k ≤ xs.length ∧ i = .int .i64 k ∧ Hid (x ∉ xs.take k)) (fun i => xs.length - (intOf i).toNat)
  case atStart => exact ⟨0, Nat.zero_le _, rfl, Lib.hid (by simp)⟩
  case round =>
    obtain ⟨k, hk, rfl, HA⟩ := hrel
    by_cases hlt : k < xs.length
    · obtain ⟨b, o, rfl, hb, hcell⟩ := hr (by omega)
      obtain ⟨y, hyk, hy⟩ := int_at hcell hlt
      clear hcell hr
      by_cases he : y = x
      · subst he
        have HH : Hid (IdxOf xs y k) := Lib.hid (.inr ⟨k, rfl, hyk.out⟩)
        have hq : (y == y) = true := by simp
        go_wp2_with fail
        go_ret
        exact ⟨_, rfl, HH.out, rfl⟩
      · have HH := Lib.hid (not_mem_snoc HA.out hyk.out he)
        have hq : (x == y) = false := by simp; exact fun e => he e.symm
        go_wp2_with fail
        exact ⟨⟨k + 1, by omega, by go_num, HH⟩, by simp [intOf]; omega⟩
    · have HH : Hid (IdxOf xs x (-1)) := Lib.hid (.inl ⟨rfl, by have := HA.out; rwa [List.take_of_length_le (by omega)] at this⟩)
      go_wp2_with fail
      go_ret
      exact ⟨_, rfl, HH.out, rfl⟩
set_option maxHeartbeats 800000 in
theorem containsI (v : Value) (xs : List Int) (x : Int) (w : World) (h : Rd w v 1 xs.length (ints xs)) :
    Calls Try.prog 80 #[v, .int .i64 x] w fun e w' => e = .returned (.bool (xs.any (· == x))) ∧ w = w' := by
  have hI := indexI v xs x w h
  obtain ⟨A, c, rfl, -, -, -, -⟩ := h
  have HI := Lib.hid hI
  clear hI
  go_enter Try.func80, Try.ntmps80
  go_wp2_with fail
  refine HI.out.mono ?_
  rintro e w1 ⟨r, rfl, hr, rfl⟩
  have HR : Hid (decide (0 ≤ r) = xs.any (· == x)) := Lib.hid (by rw [Bool.eq_iff_iff, decide_eq_true_iff, any_mem]; exact hr.nonneg)
  clear hr
  go_wp2_with fail
  go_ret
  exact ⟨ret_bool HR.out, rfl⟩
set_option maxHeartbeats 1600000 in
theorem indexH (v : Value) (hs : List P2) (s : P2) (w : World) (h : Rd w v 2 hs.length (flc2 hs)) :
    Calls Try.prog 82 #[v, .agg #[.int .i64 s.a, .int .i64 s.b]] w fun e w' => ∃ r : Int, e = .returned (.int .i64 r) ∧ IdxOf hs s r ∧ Below w.heap.size w w' := by
  obtain ⟨A, c, rfl, -, hnc, hc, hr⟩ := h
  unfold maxLen at hc
  obtain ⟨sa, sb⟩ := s
  have hB0 := (Below.refl w.heap.size w).alloc (Nat.le_refl _) (.cells #[.int .i64 sa, .int .i64 sb] 92)
  have k0 := Bk.new w #[.int .i64 sa, .int .i64 sb] 92
  go_enter Try.func82, Try.ntmps82
  go_wp2_with fail
  go_loopw [5, 8] (fun _ j wr => ∃ k : Nat, k ≤ hs.length ∧ j = .int .i64 k ∧ Hid ((⟨sa, sb⟩ : P2) ∉ hs.take k) ∧ Below w.heap.size w wr ∧ Bk wr w.heap.size #[.int .i64 sa, .int .i64 sb] 92) (fun _ j _ => hs.length - (intOf j).toNat)
  case atStart => exact ⟨0, Nat.zero_le _, rfl, Lib.hid (by simp), hB0, k0⟩
  case round =>
    obtain ⟨k, hk, rfl, HN, hB, kp⟩ := hrel
    clear hB0 k0
    by_cases hlt : k < hs.length
    · obtain ⟨b, o, rfl, hb, hcell⟩ := hr (by omega)
      obtain ⟨x, hxk, hx0, hx1⟩ := p2_at (fun j u hu => (hB.cell (p := ⟨b, o + j, none⟩) hb).trans (hcell j u hu)) hlt
      obtain ⟨xa, xb⟩ := x
      simp only at hx0 hx1
      obtain ⟨c0, -⟩ := kp.at_ 0 (x := .int .i64 sa) rfl
      obtain ⟨c1, -⟩ := kp.at_ 1 (x := .int .i64 sb) rfl
      have KP := Lib.hid kp
      clear hcell hr kp
      by_cases he : xa = sa ∧ xb = sb
      · obtain ⟨rfl, rfl⟩ := he
        have HQ : Hid (IdxOf hs ⟨xa, xb⟩ k) := Lib.hid (.inr ⟨k, rfl, hxk.out⟩)
        go_wp2_with fail
        go_quiet (fail)
        go_wp2_with fail
        go_ret
        exact ⟨_, rfl, HQ.out, below_more hB _⟩
      · have HQ := Lib.hid (not_mem_snoc HN.out hxk.out (fun e => he (by injection e with e1 e2; exact ⟨e1, e2⟩)))
        have hc2 : ((sa == xa) = false) ∨ ((sa == xa) = true ∧ (sb == xb) = false) := by
          by_cases h1 : sa = xa
          · by_cases h2 : sb = xb
            · exact absurd ⟨h1.symm, h2.symm⟩ he
            · exact .inr ⟨by simp [h1], by simp [h2]⟩
          · exact .inl (by simp [h1])
        clear he
        rcases hc2 with e1 | ⟨e1, e2⟩
        all_goals
          go_wp2_with fail
          go_quiet (fail)
          go_wp2_with fail
          exact ⟨⟨k + 1, by omega, by go_num, HQ, below_more hB _, KP.out⟩, by simp [intOf]; omega⟩
    · have HQ : Hid (IdxOf hs ⟨sa, sb⟩ (-1)) := Lib.hid (.inl ⟨rfl, by have := HN.out; rwa [List.take_of_length_le (by omega)] at this⟩)
      go_wp2_with fail
      go_ret
      exact ⟨_, rfl, HQ.out, hB⟩
set_option maxHeartbeats 800000 in
theorem containsH (v : Value) (hs : List P2) (s : P2) (w : World) (h : Rd w v 2 hs.length (flc2 hs)) :
    Calls Try.prog 81 #[v, .agg #[.int .i64 s.a, .int .i64 s.b]] w fun e w' => e = .returned (.bool (decide (s ∈ hs))) ∧ Below w.heap.size w w' := by
  obtain ⟨A, c, rfl, -, -, -, -⟩ := id h
  obtain ⟨sa, sb⟩ := s
  have hB0 := (Below.refl w.heap.size w).alloc (Nat.le_refl _) (.cells #[.int .i64 sa, .int .i64 sb] 92)
  have HI := Lib.hid (indexH _ hs ⟨sa, sb⟩ _ (h.below hB0))
  clear h
  go_enter Try.func81, Try.ntmps81
  go_wp2_with fail
  refine HI.out.mono ?_
  rintro e w1 ⟨r, rfl, hr, hb1⟩
  have HR : Hid (decide (0 ≤ r) = decide ((⟨sa, sb⟩ : P2) ∈ hs)) := Lib.hid (by rw [Bool.eq_iff_iff, decide_eq_true_iff, decide_eq_true_iff]; exact hr.nonneg)
  clear hr
  go_wp2_with fail
  go_ret
  exact ⟨ret_bool HR.out, hB0.trans (hb1.mono hB0.size)⟩
end Go.Proofs.Ytiamkgkhamnaeaa
