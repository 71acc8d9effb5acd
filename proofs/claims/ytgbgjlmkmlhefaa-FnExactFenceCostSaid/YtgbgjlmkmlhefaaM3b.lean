/- Contracts of the laws' helpers over programs: size, copy, equality. -/
import Derived.Test.YtgbgjlmkmlhefaaM3
namespace Go.Proofs.Ytgbgjlmkmlhefaa
set_option maxRecDepth 20000
set_option linter.unusedSimpArgs false
set_option linter.unusedVariables false
open Go.ChangeShapes Go.WideShapes Go.ChangeAt Go.RowKit
/-- a program -/
structure Pr where
  c : Int
  x : List (List Ins)
deriving DecidableEq
set_option maxHeartbeats 400000 in
theorem szProg (v : Value) (p : Pr) (left : Int) (w : World) (h : RdASS w v p.x) (hl0 : -1 ≤ left) (hl : left ≤ 1048576) :
    Calls Try.prog 10 #[.agg #[.int .i64 p.c, v], .int .i64 left] w fun e w' => e = .returned (.int .i64 (szF (totSS p.x) left)) ∧ Below w.heap.size w w' := by
  obtain ⟨vs, ⟨A, c, rfl, -, -, -, -⟩, -⟩ := id h
  have hr := szInstrSS _ p.x left _ (h.below ((Below.refl _ _).alloc (Nat.le_refl _) (.cells #[.int .i64 p.c, .slice A p.x.length c] 26))) hl0 hl
  have hs : szF (totSS p.x) left = -1 ∨ 0 ≤ szF (totSS p.x) left := by unfold szF; split <;> omega
  generalize szF (totSS p.x) left = m at hr hs ⊢
  rcases hs with rfl | hs
  all_goals
    go_enter Try.func10, Try.ntmps10
    go_wp2_with fail
    refine hr.mono ?_
    rintro e w1 ⟨rfl, rfl⟩
    go_wp2_with fail
    go_ret
    exact ⟨rfl, (Below.refl _ _).alloc (Nat.le_refl _) _⟩
set_option maxHeartbeats 400000 in
theorem toProg (v : Value) (p : Pr) (w : World) (h : RdASS w v p.x) (hsz : totSS p.x ≤ 1048576) :
    Calls Try.prog 13 #[.agg #[.int .i64 p.c, v]] w fun e w' => ∃ v' bs, e = .returned (.agg #[.int .i64 p.c, v']) ∧ OwnSS w' v' p.x bs ∧ (∀ b ∈ bs, w.heap.size ≤ b) ∧ Below w.heap.size w w' := by
  obtain ⟨vs, ⟨A, c, rfl, -, -, -, -⟩, -⟩ := id h
  have hlow := (((Below.refl w.heap.size w).alloc (Nat.le_refl _) (.cells #[.int .i64 p.c, .slice A p.x.length c] 26)).alloc (by simp) (.cells #[.int .i64 0, .slice none 0 0] 33)).alloc (by simp; omega) (.cells #[.int .i64 p.c, .slice none 0 0] 33)
  go_enter Try.func13, Try.ntmps13
  go_wp2_with fail
  refine (toInstrSS _ p.x _ (h.below hlow) hsz).mono ?_
  rintro e w1 ⟨v1, bs1, rfl, ho1, hbs1, hb1⟩
  obtain ⟨A1, c1, rfl, hcc1, hcm1⟩ := ho1.slice
  have k2 := ((Bk.new (w.alloc (.cells #[.int .i64 p.c, .slice A p.x.length c] 26)) #[.int .i64 0, .slice none 0 0] 33).alloc (.cells #[.int .i64 p.c, .slice none 0 0] 33)).below hb1 (by simp)
  have k3 := (Bk.new ((w.alloc (.cells #[.int .i64 p.c, .slice A p.x.length c] 26)).alloc (.cells #[.int .i64 0, .slice none 0 0] 33)) #[.int .i64 p.c, .slice none 0 0] 33).below hb1 (by simp)
  have hB1 := hlow.trans (hb1.mono (by simp; omega))
  rw [World.size_alloc] at k2
  rw [World.size_alloc, World.size_alloc] at k3
  simp only [World.size_alloc] at hbs1
  obtain ⟨hc2, hf2⟩ := k2.at_ 0 rfl
  obtain ⟨hc2b, hf2b⟩ := k2.at_ 1 rfl
  obtain ⟨hc3, hf3⟩ := k3.at_ 0 rfl
  obtain ⟨hc3b, hf3b⟩ := k3.at_ 1 rfl
  have k2' := k2.far (p := ⟨w.heap.size + 1 + 1, 1, none⟩) (by simp) (.slice A1 p.x.length c1)
  have k3' := k3.set_ 1 (.slice A1 p.x.length c1)
  clear hlow
  go_wp2_with fail
  have k4 := ((k2'.set_ 0 (.int .i64 p.c)).set_ 1 (.slice A1 p.x.length c1))
  obtain ⟨hr0, -⟩ := k4.at_ 0 rfl
  obtain ⟨hr1, -⟩ := k4.at_ 1 rfl
  refine bodyPost_ret (v := .agg #[.int .i64 p.c, .slice A1 p.x.length c1]) (by simp [results, Try.results13, go_sem, hc2, hc2b]) rfl ⟨_, bs1, rfl, ?_, fun b hb => by have := hbs1 b hb; omega, ?_⟩
  · exact ho1.of_blocks (by simp [World.setCell]) fun b hb => by
      have := hbs1 b hb
      rw [Below.heap_setCell _ _ _ _ (by show b ≠ w.heap.size + 1; omega), Below.heap_setCell _ _ _ _ (by show b ≠ w.heap.size + 1; omega), Below.heap_setCell _ _ _ _ (by show b ≠ w.heap.size + 1 + 1; omega)]
  · exact ((hB1.setCell (by show w.heap.size ≤ w.heap.size + 1 + 1; omega) _).setCell (Nat.le_succ _) _).setCell (Nat.le_succ _) _
set_option maxHeartbeats 400000 in
theorem eqProg (v u : Value) (p q : Pr) (w : World) (h : RdSS w v p.x) (h' : RdSS w u q.x) :
    Calls Try.prog 15 #[.agg #[.int .i64 p.c, v], .agg #[.int .i64 q.c, u]] w fun e w' => e = .returned (.bool (decide (p = q))) ∧ Below w.heap.size w w' := by
  obtain ⟨vs, ⟨A, c, rfl, -, -, -, -⟩, -⟩ := id h
  obtain ⟨vs', ⟨A', c', rfl, -, -, -, -⟩, -⟩ := id h'
  obtain ⟨pc, px⟩ := p
  obtain ⟨qc, qx⟩ := q
  have hB := ((Below.refl w.heap.size w).alloc (Nat.le_refl _) (.cells #[.int .i64 pc, .slice A px.length c] 33)).alloc (by simp) (.cells #[.int .i64 qc, .slice A' qx.length c'] 33)
  by_cases h1 : pc = qc
  · subst h1
    have hr := eqInstrSS _ _ px qx _ (h.below hB) (h'.below hB)
    have hd : decide (Pr.mk pc px = Pr.mk pc qx) = decide (px = qx) := by simp
    have HR := Lib.hid hr
    have HB := Lib.hid hB
    have HD := Lib.hid hd
    clear h h' hr hB hd
    go_enter Try.func15, Try.ntmps15
    go_wp2_with fail
    refine HR.out.mono ?_
    rintro e w1 ⟨rfl, hb1⟩
    cases hdd : decide (px = qx)
    all_goals
      have HE := Lib.hid hdd
      clear hdd
      go_wp2_with fail
      go_ret
      exact ⟨ret_bool (HD.out.trans HE.out).symm, HB.out.trans (hb1.mono HB.out.size)⟩
  · have hne : (pc != qc) = true := by simp [h1]
    have HB := Lib.hid hB
    have HD : Hid (decide (Pr.mk pc px = Pr.mk qc qx) = false) := Lib.hid (by simp [h1])
    clear h h' hB h1
    go_enter Try.func15, Try.ntmps15
    go_wp2_with fail
    go_ret
    exact ⟨ret_bool HD.out.symm, HB.out⟩
end Go.Proofs.Ytgbgjlmkmlhefaa
